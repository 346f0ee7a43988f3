/-
  For any two slots and any keys the law SlotApart returns true, and its arguments read behind the call as they read before.
-/
import Derived.Test.YtomalmnpojcloaaRows
import Derived.ProofKit
import Derived.OpenShut
import Derived.ShutString
import Derived.ChangeOld
import Derived.Below
import Derived.SizedLaws
import Derived.Test.YtomalmnpojcloaaEnc
import Derived.Test.YtomalmnpojcloaaSOpen
import Derived.Test.YtomalmnpojcloaaLad
namespace Go.Proofs.Ytomalmnpojcloaa.slotApart
open Go.ChangeShapes Go.WideShapes Go.ChangeAt Go.RowKit
set_option linter.unusedVariables false

theorem own : ownKnob Try.prog.godebug = none := by kernel_rfl
theorem laidOut : laidOutB Try.prog = true := by kernel_rfl

open Go.BigFrame
set_option maxRecDepth 20000 in
set_option maxHeartbeats 2000000 in
theorem walk (a : Bool) (f : Nat → BitVec 8) (b : Bool) (g : Nat → BitVec 8) (v : Value) (w : World) (hk : KArg v w) : Calls Try.prog 7 #[.agg (row 81 (slv a f)).toArray, .agg (row 81 (slv b g)).toArray, v] w fun e w' => e = .returned (.bool true) ∧ Below w.heap.size w w' := by
  obtain ⟨u, n, xs, fs, t, rfl, hV, hin, hn9⟩ := hk
  obtain ⟨ka, kc, rfl⟩ := hV.form
  have A1 : RowAt w.heap.size 81 (slv a f) (((w.alloc (.cells (row 81 (slv a f)).toArray 25)).alloc (.cells (row 81 (slv b g)).toArray 25)).alloc (.cells (row 33 (kyv (.slice ka n kc) t)).toArray 37)) := ((RowAt.new w 81 _ 25).alloc _).alloc _
  have B1 : RowAt (w.heap.size + 1) 81 (slv b g) (((w.alloc (.cells (row 81 (slv a f)).toArray 25)).alloc (.cells (row 81 (slv b g)).toArray 25)).alloc (.cells (row 33 (kyv (.slice ka n kc) t)).toArray 37)) := by
    have := (RowAt.new (w.alloc (.cells (row 81 (slv a f)).toArray 25)) 81 (slv b g) 25).alloc (.cells (row 33 (kyv (.slice ka n kc) t)).toArray 37)
    simpa using this
  have K1 : RowAt (w.heap.size + 1 + 1) 33 (kyv (.slice ka n kc) t) (((w.alloc (.cells (row 81 (slv a f)).toArray 25)).alloc (.cells (row 81 (slv b g)).toArray 25)).alloc (.cells (row 33 (kyv (.slice ka n kc) t)).toArray 37)) := by
    have := RowAt.new ((w.alloc (.cells (row 81 (slv a f)).toArray 25)).alloc (.cells (row 81 (slv b g)).toArray 25)) 33 (kyv (.slice ka n kc) t) 37
    simpa using this
  have hE1 : Ext w (((w.alloc (.cells (row 81 (slv a f)).toArray 25)).alloc (.cells (row 81 (slv b g)).toArray 25)).alloc (.cells (row 33 (kyv (.slice ka n kc) t)).toArray 37)) := (((Below.refl _ _).alloc (Nat.le_refl _) _).alloc (by simp) _).alloc (by simp; omega) _
  have V1 := hideit (hV.ext hE1)
  replace A1 := hideit A1
  replace B1 := hideit B1
  replace K1 := hideit K1
  replace hE1 := hideit hE1
  replace hin := hideit hin
  clear hV
  go_enter Try.func7, Try.ntmps7
  go_upto_region 1 with (fail)
  generalize ((w.alloc (.cells (row 81 (slv a f)).toArray 25)).alloc (.cells (row 81 (slv b g)).toArray 25)).alloc (.cells (row 33 (kyv (.slice ka n kc) t)).toArray 37) = w1 at *
  obtain ⟨p, hp⟩ : ∃ p, p = w.heap.size := ⟨_, rfl⟩
  rw [← hp] at A1 B1 K1 ⊢
  clear hp
  refine wp_region_lit ?_
  refine wpList_load_mid rfl 25 (.tmp 3) rfl p 0 rfl (row 81 (slv a f)) _ A1.out.range Try.underlying25 rfl (by rw [row_length]; exact info25) ?_
  simp only [Act.put, List.setIfInBounds_toArray, List.set_cons_zero, List.set_cons_succ]
  by_cases ha : okSl a f
  · refine wpList_call rfl (by simp [go_sem]; exact ⟨rfl, rfl⟩) ?_
    refine (enc_ok a f ha w1).mono ?_
    rintro e w2 ⟨x, rfl, hg, hR, hX⟩
    refine ⟨_, rfl, ?_⟩
    simp only [Act.put, List.setIfInBounds_toArray, List.set_cons_zero, List.set_cons_succ]
    have X2 : Hid (BV (.slice (some ⟨x, 0, none⟩) 512 512) 512 (slB a f) w2) := hideit (.inr ⟨_, _, rfl, Nat.le_refl _, hR.lie 512 (Nat.le_refl _)⟩)
    clear hg hR
    have A2 := hideit (A1.out.carry hX)
    have B2 := hideit (B1.out.carry hX)
    have K2 := hideit (K1.out.carry hX)
    have V2 := hideit (V1.out.ext hX)
    have hE2 := hideit (Ext.trans hE1.out hX)
    clear hX hE1 A1 B1 K1 V1
    go_upto_region 2 with (fail)
    refine wp_region_lit ?_
    refine wpList_load_mid rfl 25 (.tmp 4) rfl (p + 1) 0 rfl (row 81 (slv b g)) _ B2.out.range Try.underlying25 rfl (by rw [row_length]; exact info25) ?_
    simp only [Act.put, List.setIfInBounds_toArray, List.set_cons_zero, List.set_cons_succ]
    by_cases hb : okSl b g
    · refine wpList_call rfl (by simp [go_sem]; exact ⟨rfl, rfl⟩) ?_
      refine (enc_ok b g hb w2).mono ?_
      rintro e w3 ⟨y, rfl, hg, hR, hX⟩
      refine ⟨_, rfl, ?_⟩
      simp only [Act.put, List.setIfInBounds_toArray, List.set_cons_zero, List.set_cons_succ]
      have Y3 : Hid (BV (.slice (some ⟨y, 0, none⟩) 512 512) 512 (slB b g) w3) := hideit (.inr ⟨_, _, rfl, Nat.le_refl _, hR.lie 512 (Nat.le_refl _)⟩)
      clear hg hR
      have A3 := hideit (A2.out.carry hX)
      have B3 := hideit (B2.out.carry hX)
      have K3 := hideit (K2.out.carry hX)
      have V3 := hideit (V2.out.ext hX)
      have X3 := hideit (X2.out.ext hX)
      have hE3 := hideit (Ext.trans hE2.out hX)
      clear hX hE2 A2 B2 K2 V2 X2
      obtain ⟨Q, hQ0⟩ : ∃ Q, Q = ((a == b) && eqN 80 f g) := ⟨_, rfl⟩
      have hQ2 := hideit hQ0
      obtain ⟨sx, hsx⟩ : ∃ sx, sx = bstr 512 (fun j => ((slB a f j).toNat : Int)) := ⟨_, rfl⟩
      obtain ⟨sy, hsy⟩ : ∃ sy, sy = bstr 512 (fun j => ((slB b g j).toNat : Int)) := ⟨_, rfl⟩
      have hQ : Hid ((sx.toList == sy.toList) = Q) := hideit (by rw [hsx, hsy, str_beq, hQ0, slB_inj a b f g ha hb])
      have hcx : ∀ X, Ext w3 X → (convert 26 9 (.slice (some ⟨x, 0, none⟩) 512 512)).run Try.prog X = .ok (.string sx) X := fun X hX => by rw [hsx]; exact convV _ 512 _ X (X3.out.ext hX)
      have hcy : ∀ X, Ext w3 X → (convert 26 9 (.slice (some ⟨y, 0, none⟩) 512 512)).run Try.prog X = .ok (.string sy) X := fun X hX => by rw [hsy]; exact convV _ 512 _ X (Y3.out.ext hX)
      clear hsx hsy hQ0
      have hC0 : Ext w3 w3.drew := (Ext.refl w3).draw
      go_upto_region 3 with (fail)
      refine wp_region_lad (fun Y => Ext w3 Y) [(true, 0), (false, 1), (false, 2), (false, 3), (false, 4), (false, 5), (false, 6), (false, 7), (false, 8), (false, 9), (false, 10), (false, 11), (false, 12), (false, 13), (false, 14), (false, 15), (false, 16), (false, 17), (false, 18), (false, 19), (false, 20)] (by kernel_rfl) (by kernel_rfl) (by decide +kernel) (by decide +kernel) (by decide +kernel) (by decide +kernel) hC0 ?_
      refine wpX_call _ rfl rfl (by simp [go_sem]) ((lives_any _).mono ?_)
      rintro e X ⟨rfl, hX⟩
      refine ⟨_, rfl, fun Y => Ext w3 Y, fun _ h => h, ?_, ?_⟩
      · exact Ext.trans hC0 hX
      simp only [List.getElem_toArray, List.getElem_cons_zero, Act.put, List.setIfInBounds_toArray, List.set_cons_zero, List.set_cons_succ]
      refine wpX_f _ (.bool false) rfl rfl (fun X _ => by simp [go_sem]) ?_
      simp only [List.getElem_toArray, List.getElem_cons_zero, List.getElem_cons_succ, Act.put, List.setIfInBounds_toArray, List.set_cons_zero, List.set_cons_succ]
      refine wpX_f _ (.bool false) rfl rfl (fun X _ => by simp [go_sem]) ?_
      simp only [List.getElem_toArray, List.getElem_cons_zero, List.getElem_cons_succ, Act.put, List.setIfInBounds_toArray, List.set_cons_zero, List.set_cons_succ]
      refine wpX_f _ (.int .i64 0) rfl rfl (fun X _ => by simp [go_sem]) ?_
      simp only [List.getElem_toArray, List.getElem_cons_zero, List.getElem_cons_succ, Act.put, List.setIfInBounds_toArray, List.set_cons_zero, List.set_cons_succ]
      refine wpX_f _ (.bool true) rfl rfl (fun X _ => by simp [go_sem]) ?_
      simp only [List.getElem_toArray, List.getElem_cons_zero, List.getElem_cons_succ, Act.put, List.setIfInBounds_toArray, List.set_cons_zero, List.set_cons_succ]
      refine wpX_f _ (.bool true) rfl rfl (fun X _ => by simp [go_sem]) ?_
      simp only [List.getElem_toArray, List.getElem_cons_zero, List.getElem_cons_succ, Act.put, List.setIfInBounds_toArray, List.set_cons_zero, List.set_cons_succ]
      refine wpX_f _ (.int .i64 0) rfl rfl (fun X _ => by simp [go_sem]) ?_
      simp only [List.getElem_toArray, List.getElem_cons_zero, List.getElem_cons_succ, Act.put, List.setIfInBounds_toArray, List.set_cons_zero, List.set_cons_succ]
      refine wpX_f _ (.bool true) rfl rfl (fun X _ => by simp [go_sem]) ?_
      simp only [List.getElem_toArray, List.getElem_cons_zero, List.getElem_cons_succ, Act.put, List.setIfInBounds_toArray, List.set_cons_zero, List.set_cons_succ]
      refine wpX_f _ (.bool true) rfl rfl (fun X _ => by simp [go_sem]) ?_
      simp only [List.getElem_toArray, List.getElem_cons_zero, List.getElem_cons_succ, Act.put, List.setIfInBounds_toArray, List.set_cons_zero, List.set_cons_succ]
      refine wpX_f _ (.bool true) rfl rfl (fun X _ => by simp [go_sem]) ?_
      simp only [List.getElem_toArray, List.getElem_cons_zero, List.getElem_cons_succ, Act.put, List.setIfInBounds_toArray, List.set_cons_zero, List.set_cons_succ]
      refine wpX_f _ (.slice (some ⟨x, 0, none⟩) 512 512) rfl rfl (fun X _ => by simp [go_sem]) ?_
      simp only [List.getElem_toArray, List.getElem_cons_zero, List.getElem_cons_succ, Act.put, List.setIfInBounds_toArray, List.set_cons_zero, List.set_cons_succ]
      refine wpX_f _ (.string sx) rfl rfl (fun X hX => by simp [go_sem, hcx X hX]) ?_
      simp only [List.getElem_toArray, List.getElem_cons_zero, List.getElem_cons_succ, Act.put, List.setIfInBounds_toArray, List.set_cons_zero, List.set_cons_succ]
      refine wpX_f _ (.slice (some ⟨y, 0, none⟩) 512 512) rfl rfl (fun X _ => by simp [go_sem]) ?_
      simp only [List.getElem_toArray, List.getElem_cons_zero, List.getElem_cons_succ, Act.put, List.setIfInBounds_toArray, List.set_cons_zero, List.set_cons_succ]
      refine wpX_f _ (.string sy) rfl rfl (fun X hX => by simp [go_sem, hcy X hX]) ?_
      simp only [List.getElem_toArray, List.getElem_cons_zero, List.getElem_cons_succ, Act.put, List.setIfInBounds_toArray, List.set_cons_zero, List.set_cons_succ]
      refine wpX_f _ (.bool Q) rfl rfl (fun X _ => by simp only [← hQ.out]; simp [go_sem]) ?_
      simp only [List.getElem_toArray, List.getElem_cons_zero, List.getElem_cons_succ, Act.put, List.setIfInBounds_toArray, List.set_cons_zero, List.set_cons_succ]
      refine wpX_f _ (.agg (row 81 (slv a f)).toArray) rfl rfl (fun X hX => exec_load 25 (.tmp 3) rfl p 81 (slv a f) rfl (A3.out.carry hX) Try.underlying25 rfl info25) ?_
      simp only [List.getElem_toArray, List.getElem_cons_zero, List.getElem_cons_succ, Act.put, List.setIfInBounds_toArray, List.set_cons_zero, List.set_cons_succ]
      refine wpX_f _ (.agg (row 81 (slv b g)).toArray) rfl rfl (fun X hX => exec_load 25 (.tmp 4) rfl (p + 1) 81 (slv b g) rfl (B3.out.carry hX) Try.underlying25 rfl info25) ?_
      simp only [List.getElem_toArray, List.getElem_cons_zero, List.getElem_cons_succ, Act.put, List.setIfInBounds_toArray, List.set_cons_zero, List.set_cons_succ]
      refine wpX_f _ (.bool Q) rfl rfl (fun X hX => exec_cmp .eql 25 25 (.tmp 42) (.tmp 43) rfl _ _ rfl rfl (by kernel_rfl) Q (by rw [eql25, ← hQ2.out])) ?_
      simp only [List.getElem_toArray, List.getElem_cons_zero, List.getElem_cons_succ, Act.put, List.setIfInBounds_toArray, List.set_cons_zero, List.set_cons_succ]
      refine wpX_f _ (.bool false) rfl rfl (fun X _ => by simp [go_sem]) ?_
      simp only [List.getElem_toArray, List.getElem_cons_zero, List.getElem_cons_succ, Act.put, List.setIfInBounds_toArray, List.set_cons_zero, List.set_cons_succ]
      refine wpX_f _ (.bool false) rfl rfl (fun X _ => by simp [go_sem]) ?_
      simp only [List.getElem_toArray, List.getElem_cons_zero, List.getElem_cons_succ, Act.put, List.setIfInBounds_toArray, List.set_cons_zero, List.set_cons_succ]
      refine wpX_f _ (.bool false) rfl rfl (fun X _ => by simp [go_sem]) ?_
      simp only [List.getElem_toArray, List.getElem_cons_zero, List.getElem_cons_succ, Act.put, List.setIfInBounds_toArray, List.set_cons_zero, List.set_cons_succ]
      refine wpX_nil ?_
      replace hX := hideit (Ext.trans hC0 hX)
      clear hC0
      have A4 := hideit (A3.out.carry hX.out)
      have B4 := hideit (B3.out.carry hX.out)
      have K4 := hideit (K3.out.carry hX.out)
      have V4 := hideit (V3.out.ext hX.out)
      have X4 := hideit (X3.out.ext hX.out)
      have hE4 := hideit (Ext.trans hE3.out hX.out)
      clear hX hE3 A3 B3 K3 V3 X3
      clear hQ hQ2 hcx hcy Y3
      go_upto_region 5 with (fail)
      refine wp_region_lit ?_
      refine wpList_load_mid rfl 37 (.tmp 5) rfl (p + 1 + 1) 0 rfl (row 33 (kyv (.slice ka n kc) t)) _ K4.out.range Try.underlying37 rfl (by rw [row_length]; exact info37) ?_
      simp only [Act.put, List.setIfInBounds_toArray, List.set_cons_zero, List.set_cons_succ]
      by_cases hb : okE n xs
      · refine wpList_call rfl (by simp [go_sem]; exact ⟨rfl, rfl⟩) ?_
        refine (keys_ok _ n xs fs t _ V4.out hin.out hb).mono ?_
        rintro e w7 ⟨z, rfl, hz, hRz, hX⟩
        refine ⟨_, rfl, ?_⟩
        simp only [Act.put, List.setIfInBounds_toArray, List.set_cons_zero, List.set_cons_succ]
        have Z7 : Hid (BV (.slice (some ⟨z, 0, none⟩) 512 512) 512 (keB n xs fs t) w7) := hideit (.inr ⟨_, _, rfl, Nat.le_refl _, hRz.lie 512 (Nat.le_refl _)⟩)
        have X7 := hideit (X4.out.ext hX)
        have hE7 := hideit (Ext.trans hE4.out hX)
        clear hX hE4 hRz hz A4 B4 K4 V4 X4
        go_upto_region 8 with (fail)
        refine wp_region_lit ?_
        refine wpList_run rfl (.slice (some ⟨z, 0, none⟩) 512 512) (by simp [go_sem]) ?_
        simp only [Act.put, List.setIfInBounds_toArray, List.set_cons_zero, List.set_cons_succ]
        refine wpList_call rfl (by simp [go_sem]; exact ⟨rfl, rfl⟩) ?_
        refine (dec_keys _ n xs fs t w7 Z7.out).mono ?_
        rintro e w8 ⟨rfl, hX⟩
        refine ⟨_, rfl, ?_⟩
        simp only [Act.put, List.setIfInBounds_toArray, List.set_cons_zero, List.set_cons_succ]
        have X8 := hideit (X7.out.ext hX)
        have hE8 := hideit (Ext.trans hE7.out hX)
        clear hX hE7 Z7 X7
        refine wpList_run rfl (.tuple #[.agg (row 81 (slv false zF)).toArray, .int .i64 110]) (by simp [go_sem]) ?_
        simp only [Act.put, List.setIfInBounds_toArray, List.set_cons_zero, List.set_cons_succ]
        refine wpList_run rfl (.agg (row 81 (slv false zF)).toArray) (by simp [go_sem]) ?_
        simp only [Act.put, List.setIfInBounds_toArray, List.set_cons_zero, List.set_cons_succ]
        refine wpList_run rfl (.int .i64 110) (by simp [go_sem]) ?_
        simp only [Act.put, List.setIfInBounds_toArray, List.set_cons_zero, List.set_cons_succ]
        obtain ⟨H1, hA1, H2, hA2⟩ := made25 w8 false zF
        obtain ⟨s, hs⟩ : ∃ s, s = w8.heap.size := ⟨_, rfl⟩
        rw [← hs] at H1 H2 hA2
        refine wpList_to rfl (.pointer (some ⟨s, 0, none⟩)) (w8.alloc (.cells zk25 25)) (by rw [hs]; exact alloc25 rfl) ?_
        simp only [Act.put, List.setIfInBounds_toArray, List.set_cons_zero, List.set_cons_succ]
        refine wpList_store_mid rfl 25 (.tmp 13) (.tmp 65) rfl s 0 (row 81 (slv false zF)).toArray rfl rfl (by rw [row_size]; exact H1.there) (by rw [row_size]; exact info25) (row_one (slv_one _ _)) ?_
        rw [show (row 81 (slv false zF)).toArray.toList = row 81 (slv false zF) from rfl]
        have X9 := hideit (X8.out.ext hA2)
        have hE9 := hideit (Ext.trans hE8.out hA2)
        clear H1 hA1 H2 hA2 hs hE8 X8
        generalize (w8.alloc (.cells zk25 25)).setCells s 0 (row 81 (slv false zF)) = w9 at *
        simp only [Act.put]
        go_upto_region 10 with (fail)
        refine wp_region_lit ?_
        refine wpList_run rfl (.slice (some ⟨x, 0, none⟩) 512 512) (by simp [go_sem]) ?_
        simp only [Act.put, List.setIfInBounds_toArray, List.set_cons_zero, List.set_cons_succ]
        refine wpList_call rfl (by simp [go_sem]; exact ⟨rfl, rfl⟩) ?_
        refine (kdec_no _ _ w9 X9.out (slB_notK a f)).mono ?_
        rintro e wa ⟨rfl, hX⟩
        refine ⟨_, rfl, ?_⟩
        simp only [Act.put, List.setIfInBounds_toArray, List.set_cons_zero, List.set_cons_succ]
        have hEa := hideit (Ext.trans hE9.out hX)
        clear hX hE9 X9
        refine wpList_run rfl (.tuple #[.agg (row 33 (kyv (.slice none 0 0) zF)).toArray, .int .i64 110]) (by simp [go_sem]) ?_
        simp only [Act.put, List.setIfInBounds_toArray, List.set_cons_zero, List.set_cons_succ]
        refine wpList_run rfl (.agg (row 33 (kyv (.slice none 0 0) zF)).toArray) (by simp [go_sem]) ?_
        simp only [Act.put, List.setIfInBounds_toArray, List.set_cons_zero, List.set_cons_succ]
        refine wpList_run rfl (.int .i64 110) (by simp [go_sem]) ?_
        simp only [Act.put, List.setIfInBounds_toArray, List.set_cons_zero, List.set_cons_succ]
        obtain ⟨H1, hA1, H2, hA2⟩ := made37 wa (.slice none 0 0) zF
        obtain ⟨s9, hs⟩ : ∃ s9, s9 = wa.heap.size := ⟨_, rfl⟩
        rw [← hs] at H1 H2 hA2
        refine wpList_to rfl (.pointer (some ⟨s9, 0, none⟩)) (wa.alloc (.cells zk37 37)) (by simp [go_sem, hs, zk37]) ?_
        simp only [Act.put, List.setIfInBounds_toArray, List.set_cons_zero, List.set_cons_succ]
        refine wpList_store_mid rfl 37 (.tmp 15) (.tmp 72) rfl s9 0 (row 33 (kyv (.slice none 0 0) zF)).toArray rfl rfl (by rw [row_size]; exact H1.there) (by rw [row_size]; exact info37) (row_one (kyv_one _ _ _ _)) ?_
        rw [show (row 33 (kyv (.slice none 0 0) zF)).toArray.toList = row 33 (kyv (.slice none 0 0) zF) from rfl]
        have hEb := hideit (Ext.trans hEa.out hA2)
        clear H1 hA1 H2 hA2 hs hEa
        generalize (wa.alloc (.cells zk37 37)).setCells s9 0 (row 33 (kyv (.slice none 0 0) zF)) = wb at *
        simp only [Act.put]
        go_wp2
        go_ret
        exact ⟨rfl, hEb.out⟩
      · refine wpList_call rfl (by simp [go_sem]; exact ⟨rfl, rfl⟩) ?_
        refine (keys_bad _ n xs fs t _ V4.out hin.out hb).mono ?_
        rintro e w7 ⟨rfl, hX⟩
        refine ⟨_, rfl, ?_⟩
        simp only [Act.put, List.setIfInBounds_toArray, List.set_cons_zero, List.set_cons_succ]
        have hE7 := hideit (Ext.trans hE4.out hX)
        clear hX hE4 A4 B4 K4 V4 X4
        go_wp2
        go_ret
        exact ⟨rfl, hE7.out⟩
    · refine wpList_call rfl (by simp [go_sem]; exact ⟨rfl, rfl⟩) ?_
      refine (enc_no b g hb w2).mono ?_
      rintro e w3 ⟨rfl, hX⟩
      refine ⟨_, rfl, ?_⟩
      simp only [Act.put, List.setIfInBounds_toArray, List.set_cons_zero, List.set_cons_succ]
      have A3 := hideit (A2.out.carry hX)
      have B3 := hideit (B2.out.carry hX)
      have K3 := hideit (K2.out.carry hX)
      have V3 := hideit (V2.out.ext hX)
      have X3 := hideit (X2.out.ext hX)
      have hE3 := hideit (Ext.trans hE2.out hX)
      clear hX hE2 A2 B2 K2 V2 X2
      have hC0 : Ext w3 w3.drew := (Ext.refl w3).draw
      go_upto_region 3 with (fail)
      refine wp_region_lad (fun Y => Ext w3 Y) [(true, 0), (false, 1), (false, 2), (false, 3), (false, 4), (false, 5), (false, 6), (false, 7), (false, 8), (false, 9), (false, 10), (false, 11), (false, 12), (false, 13), (false, 14), (false, 15), (false, 16), (false, 17), (false, 18), (false, 19), (false, 20)] (by kernel_rfl) (by kernel_rfl) (by decide +kernel) (by decide +kernel) (by decide +kernel) (by decide +kernel) hC0 ?_
      refine wpX_call _ rfl rfl (by simp [go_sem]) ((lives_any _).mono ?_)
      rintro e X ⟨rfl, hX⟩
      refine ⟨_, rfl, fun Y => Ext w3 Y, fun _ h => h, ?_, ?_⟩
      · exact Ext.trans hC0 hX
      simp only [List.getElem_toArray, List.getElem_cons_zero, Act.put, List.setIfInBounds_toArray, List.set_cons_zero, List.set_cons_succ]
      refine wpX_f _ (.bool false) rfl rfl (fun X _ => by simp [go_sem]) ?_
      simp only [List.getElem_toArray, List.getElem_cons_zero, List.getElem_cons_succ, Act.put, List.setIfInBounds_toArray, List.set_cons_zero, List.set_cons_succ]
      refine wpX_f _ (.bool false) rfl rfl (fun X _ => by simp [go_sem]) ?_
      simp only [List.getElem_toArray, List.getElem_cons_zero, List.getElem_cons_succ, Act.put, List.setIfInBounds_toArray, List.set_cons_zero, List.set_cons_succ]
      refine wpX_f _ (.int .i64 0) rfl rfl (fun X _ => by simp [go_sem]) ?_
      simp only [List.getElem_toArray, List.getElem_cons_zero, List.getElem_cons_succ, Act.put, List.setIfInBounds_toArray, List.set_cons_zero, List.set_cons_succ]
      refine wpX_f _ (.bool true) rfl rfl (fun X _ => by simp [go_sem]) ?_
      simp only [List.getElem_toArray, List.getElem_cons_zero, List.getElem_cons_succ, Act.put, List.setIfInBounds_toArray, List.set_cons_zero, List.set_cons_succ]
      refine wpX_f _ (.bool true) rfl rfl (fun X _ => by simp [go_sem]) ?_
      simp only [List.getElem_toArray, List.getElem_cons_zero, List.getElem_cons_succ, Act.put, List.setIfInBounds_toArray, List.set_cons_zero, List.set_cons_succ]
      refine wpX_f _ (.int .i64 1) rfl rfl (fun X _ => by simp [go_sem]) ?_
      simp only [List.getElem_toArray, List.getElem_cons_zero, List.getElem_cons_succ, Act.put, List.setIfInBounds_toArray, List.set_cons_zero, List.set_cons_succ]
      refine wpX_f _ (.bool false) rfl rfl (fun X _ => by simp [go_sem]) ?_
      simp only [List.getElem_toArray, List.getElem_cons_zero, List.getElem_cons_succ, Act.put, List.setIfInBounds_toArray, List.set_cons_zero, List.set_cons_succ]
      refine wpX_f _ (.bool false) rfl rfl (fun X _ => by simp [go_sem]) ?_
      simp only [List.getElem_toArray, List.getElem_cons_zero, List.getElem_cons_succ, Act.put, List.setIfInBounds_toArray, List.set_cons_zero, List.set_cons_succ]
      refine wpX_f _ (.bool false) rfl rfl (fun X _ => by simp [go_sem]) ?_
      simp only [List.getElem_toArray, List.getElem_cons_zero, List.getElem_cons_succ, Act.put, List.setIfInBounds_toArray, List.set_cons_zero, List.set_cons_succ]
      refine wpX_fskip _ rfl rfl ?_
      simp only [List.getElem_toArray, List.getElem_cons_zero, List.getElem_cons_succ, Act.put, List.setIfInBounds_toArray, List.set_cons_zero, List.set_cons_succ]
      refine wpX_fskip _ rfl rfl ?_
      simp only [List.getElem_toArray, List.getElem_cons_zero, List.getElem_cons_succ, Act.put, List.setIfInBounds_toArray, List.set_cons_zero, List.set_cons_succ]
      refine wpX_fskip _ rfl rfl ?_
      simp only [List.getElem_toArray, List.getElem_cons_zero, List.getElem_cons_succ, Act.put, List.setIfInBounds_toArray, List.set_cons_zero, List.set_cons_succ]
      refine wpX_fskip _ rfl rfl ?_
      simp only [List.getElem_toArray, List.getElem_cons_zero, List.getElem_cons_succ, Act.put, List.setIfInBounds_toArray, List.set_cons_zero, List.set_cons_succ]
      refine wpX_fskip _ rfl rfl ?_
      simp only [List.getElem_toArray, List.getElem_cons_zero, List.getElem_cons_succ, Act.put, List.setIfInBounds_toArray, List.set_cons_zero, List.set_cons_succ]
      refine wpX_fskip _ rfl rfl ?_
      simp only [List.getElem_toArray, List.getElem_cons_zero, List.getElem_cons_succ, Act.put, List.setIfInBounds_toArray, List.set_cons_zero, List.set_cons_succ]
      refine wpX_fskip _ rfl rfl ?_
      simp only [List.getElem_toArray, List.getElem_cons_zero, List.getElem_cons_succ, Act.put, List.setIfInBounds_toArray, List.set_cons_zero, List.set_cons_succ]
      refine wpX_fskip _ rfl rfl ?_
      simp only [List.getElem_toArray, List.getElem_cons_zero, List.getElem_cons_succ, Act.put, List.setIfInBounds_toArray, List.set_cons_zero, List.set_cons_succ]
      refine wpX_fskip _ rfl rfl ?_
      simp only [List.getElem_toArray, List.getElem_cons_zero, List.getElem_cons_succ, Act.put, List.setIfInBounds_toArray, List.set_cons_zero, List.set_cons_succ]
      refine wpX_f _ (.bool false) rfl rfl (fun X _ => by simp [go_sem]) ?_
      simp only [List.getElem_toArray, List.getElem_cons_zero, List.getElem_cons_succ, Act.put, List.setIfInBounds_toArray, List.set_cons_zero, List.set_cons_succ]
      refine wpX_f _ (.bool false) rfl rfl (fun X _ => by simp [go_sem]) ?_
      simp only [List.getElem_toArray, List.getElem_cons_zero, List.getElem_cons_succ, Act.put, List.setIfInBounds_toArray, List.set_cons_zero, List.set_cons_succ]
      refine wpX_nil ?_
      replace hX := hideit (Ext.trans hC0 hX)
      clear hC0
      have A4 := hideit (A3.out.carry hX.out)
      have B4 := hideit (B3.out.carry hX.out)
      have K4 := hideit (K3.out.carry hX.out)
      have V4 := hideit (V3.out.ext hX.out)
      have X4 := hideit (X3.out.ext hX.out)
      have hE4 := hideit (Ext.trans hE3.out hX.out)
      clear hX hE3 A3 B3 K3 V3 X3
      go_upto_region 5 with (fail)
      refine wp_region_lit ?_
      refine wpList_load_mid rfl 37 (.tmp 5) rfl (p + 1 + 1) 0 rfl (row 33 (kyv (.slice ka n kc) t)) _ K4.out.range Try.underlying37 rfl (by rw [row_length]; exact info37) ?_
      simp only [Act.put, List.setIfInBounds_toArray, List.set_cons_zero, List.set_cons_succ]
      by_cases hb : okE n xs
      · refine wpList_call rfl (by simp [go_sem]; exact ⟨rfl, rfl⟩) ?_
        refine (keys_ok _ n xs fs t _ V4.out hin.out hb).mono ?_
        rintro e w7 ⟨z, rfl, hz, hRz, hX⟩
        refine ⟨_, rfl, ?_⟩
        simp only [Act.put, List.setIfInBounds_toArray, List.set_cons_zero, List.set_cons_succ]
        have Z7 : Hid (BV (.slice (some ⟨z, 0, none⟩) 512 512) 512 (keB n xs fs t) w7) := hideit (.inr ⟨_, _, rfl, Nat.le_refl _, hRz.lie 512 (Nat.le_refl _)⟩)
        have X7 := hideit (X4.out.ext hX)
        have hE7 := hideit (Ext.trans hE4.out hX)
        clear hX hE4 hRz hz A4 B4 K4 V4 X4
        go_upto_region 8 with (fail)
        refine wp_region_lit ?_
        refine wpList_run rfl (.slice (some ⟨z, 0, none⟩) 512 512) (by simp [go_sem]) ?_
        simp only [Act.put, List.setIfInBounds_toArray, List.set_cons_zero, List.set_cons_succ]
        refine wpList_call rfl (by simp [go_sem]; exact ⟨rfl, rfl⟩) ?_
        refine (dec_keys _ n xs fs t w7 Z7.out).mono ?_
        rintro e w8 ⟨rfl, hX⟩
        refine ⟨_, rfl, ?_⟩
        simp only [Act.put, List.setIfInBounds_toArray, List.set_cons_zero, List.set_cons_succ]
        have X8 := hideit (X7.out.ext hX)
        have hE8 := hideit (Ext.trans hE7.out hX)
        clear hX hE7 Z7 X7
        refine wpList_run rfl (.tuple #[.agg (row 81 (slv false zF)).toArray, .int .i64 110]) (by simp [go_sem]) ?_
        simp only [Act.put, List.setIfInBounds_toArray, List.set_cons_zero, List.set_cons_succ]
        refine wpList_run rfl (.agg (row 81 (slv false zF)).toArray) (by simp [go_sem]) ?_
        simp only [Act.put, List.setIfInBounds_toArray, List.set_cons_zero, List.set_cons_succ]
        refine wpList_run rfl (.int .i64 110) (by simp [go_sem]) ?_
        simp only [Act.put, List.setIfInBounds_toArray, List.set_cons_zero, List.set_cons_succ]
        obtain ⟨H1, hA1, H2, hA2⟩ := made25 w8 false zF
        obtain ⟨s, hs⟩ : ∃ s, s = w8.heap.size := ⟨_, rfl⟩
        rw [← hs] at H1 H2 hA2
        refine wpList_to rfl (.pointer (some ⟨s, 0, none⟩)) (w8.alloc (.cells zk25 25)) (by rw [hs]; exact alloc25 rfl) ?_
        simp only [Act.put, List.setIfInBounds_toArray, List.set_cons_zero, List.set_cons_succ]
        refine wpList_store_mid rfl 25 (.tmp 13) (.tmp 65) rfl s 0 (row 81 (slv false zF)).toArray rfl rfl (by rw [row_size]; exact H1.there) (by rw [row_size]; exact info25) (row_one (slv_one _ _)) ?_
        rw [show (row 81 (slv false zF)).toArray.toList = row 81 (slv false zF) from rfl]
        have X9 := hideit (X8.out.ext hA2)
        have hE9 := hideit (Ext.trans hE8.out hA2)
        clear H1 hA1 H2 hA2 hs hE8 X8
        generalize (w8.alloc (.cells zk25 25)).setCells s 0 (row 81 (slv false zF)) = w9 at *
        simp only [Act.put]
        go_upto_region 10 with (fail)
        refine wp_region_lit ?_
        refine wpList_run rfl (.slice (some ⟨x, 0, none⟩) 512 512) (by simp [go_sem]) ?_
        simp only [Act.put, List.setIfInBounds_toArray, List.set_cons_zero, List.set_cons_succ]
        refine wpList_call rfl (by simp [go_sem]; exact ⟨rfl, rfl⟩) ?_
        refine (kdec_no _ _ w9 X9.out (slB_notK a f)).mono ?_
        rintro e wa ⟨rfl, hX⟩
        refine ⟨_, rfl, ?_⟩
        simp only [Act.put, List.setIfInBounds_toArray, List.set_cons_zero, List.set_cons_succ]
        have hEa := hideit (Ext.trans hE9.out hX)
        clear hX hE9 X9
        refine wpList_run rfl (.tuple #[.agg (row 33 (kyv (.slice none 0 0) zF)).toArray, .int .i64 110]) (by simp [go_sem]) ?_
        simp only [Act.put, List.setIfInBounds_toArray, List.set_cons_zero, List.set_cons_succ]
        refine wpList_run rfl (.agg (row 33 (kyv (.slice none 0 0) zF)).toArray) (by simp [go_sem]) ?_
        simp only [Act.put, List.setIfInBounds_toArray, List.set_cons_zero, List.set_cons_succ]
        refine wpList_run rfl (.int .i64 110) (by simp [go_sem]) ?_
        simp only [Act.put, List.setIfInBounds_toArray, List.set_cons_zero, List.set_cons_succ]
        obtain ⟨H1, hA1, H2, hA2⟩ := made37 wa (.slice none 0 0) zF
        obtain ⟨s9, hs⟩ : ∃ s9, s9 = wa.heap.size := ⟨_, rfl⟩
        rw [← hs] at H1 H2 hA2
        refine wpList_to rfl (.pointer (some ⟨s9, 0, none⟩)) (wa.alloc (.cells zk37 37)) (by simp [go_sem, hs, zk37]) ?_
        simp only [Act.put, List.setIfInBounds_toArray, List.set_cons_zero, List.set_cons_succ]
        refine wpList_store_mid rfl 37 (.tmp 15) (.tmp 72) rfl s9 0 (row 33 (kyv (.slice none 0 0) zF)).toArray rfl rfl (by rw [row_size]; exact H1.there) (by rw [row_size]; exact info37) (row_one (kyv_one _ _ _ _)) ?_
        rw [show (row 33 (kyv (.slice none 0 0) zF)).toArray.toList = row 33 (kyv (.slice none 0 0) zF) from rfl]
        have hEb := hideit (Ext.trans hEa.out hA2)
        clear H1 hA1 H2 hA2 hs hEa
        generalize (wa.alloc (.cells zk37 37)).setCells s9 0 (row 33 (kyv (.slice none 0 0) zF)) = wb at *
        simp only [Act.put]
        go_wp2
        go_ret
        exact ⟨rfl, hEb.out⟩
      · refine wpList_call rfl (by simp [go_sem]; exact ⟨rfl, rfl⟩) ?_
        refine (keys_bad _ n xs fs t _ V4.out hin.out hb).mono ?_
        rintro e w7 ⟨rfl, hX⟩
        refine ⟨_, rfl, ?_⟩
        simp only [Act.put, List.setIfInBounds_toArray, List.set_cons_zero, List.set_cons_succ]
        have hE7 := hideit (Ext.trans hE4.out hX)
        clear hX hE4 A4 B4 K4 V4 X4
        go_wp2
        go_ret
        exact ⟨rfl, hE7.out⟩
  · refine wpList_call rfl (by simp [go_sem]; exact ⟨rfl, rfl⟩) ?_
    refine (enc_no a f ha w1).mono ?_
    rintro e w2 ⟨rfl, hX⟩
    refine ⟨_, rfl, ?_⟩
    simp only [Act.put, List.setIfInBounds_toArray, List.set_cons_zero, List.set_cons_succ]
    have A2 := hideit (A1.out.carry hX)
    have B2 := hideit (B1.out.carry hX)
    have K2 := hideit (K1.out.carry hX)
    have V2 := hideit (V1.out.ext hX)
    have hE2 := hideit (Ext.trans hE1.out hX)
    clear hX hE1 A1 B1 K1 V1
    go_upto_region 2 with (fail)
    refine wp_region_lit ?_
    refine wpList_load_mid rfl 25 (.tmp 4) rfl (p + 1) 0 rfl (row 81 (slv b g)) _ B2.out.range Try.underlying25 rfl (by rw [row_length]; exact info25) ?_
    simp only [Act.put, List.setIfInBounds_toArray, List.set_cons_zero, List.set_cons_succ]
    by_cases hb : okSl b g
    · refine wpList_call rfl (by simp [go_sem]; exact ⟨rfl, rfl⟩) ?_
      refine (enc_ok b g hb w2).mono ?_
      rintro e w3 ⟨y, rfl, hg, hR, hX⟩
      refine ⟨_, rfl, ?_⟩
      simp only [Act.put, List.setIfInBounds_toArray, List.set_cons_zero, List.set_cons_succ]
      have Y3 : Hid (BV (.slice (some ⟨y, 0, none⟩) 512 512) 512 (slB b g) w3) := hideit (.inr ⟨_, _, rfl, Nat.le_refl _, hR.lie 512 (Nat.le_refl _)⟩)
      clear hg hR
      have A3 := hideit (A2.out.carry hX)
      have B3 := hideit (B2.out.carry hX)
      have K3 := hideit (K2.out.carry hX)
      have V3 := hideit (V2.out.ext hX)
      have hE3 := hideit (Ext.trans hE2.out hX)
      clear hX hE2 A2 B2 K2 V2
      have hC0 : Ext w3 w3.drew := (Ext.refl w3).draw
      go_upto_region 3 with (fail)
      refine wp_region_lad (fun Y => Ext w3 Y) [(true, 0), (false, 1), (false, 2), (false, 3), (false, 4), (false, 5), (false, 6), (false, 7), (false, 8), (false, 9), (false, 10), (false, 11), (false, 12), (false, 13), (false, 14), (false, 15), (false, 16), (false, 17), (false, 18), (false, 19), (false, 20)] (by kernel_rfl) (by kernel_rfl) (by decide +kernel) (by decide +kernel) (by decide +kernel) (by decide +kernel) hC0 ?_
      refine wpX_call _ rfl rfl (by simp [go_sem]) ((lives_any _).mono ?_)
      rintro e X ⟨rfl, hX⟩
      refine ⟨_, rfl, fun Y => Ext w3 Y, fun _ h => h, ?_, ?_⟩
      · exact Ext.trans hC0 hX
      simp only [List.getElem_toArray, List.getElem_cons_zero, Act.put, List.setIfInBounds_toArray, List.set_cons_zero, List.set_cons_succ]
      refine wpX_f _ (.bool false) rfl rfl (fun X _ => by simp [go_sem]) ?_
      simp only [List.getElem_toArray, List.getElem_cons_zero, List.getElem_cons_succ, Act.put, List.setIfInBounds_toArray, List.set_cons_zero, List.set_cons_succ]
      refine wpX_f _ (.bool false) rfl rfl (fun X _ => by simp [go_sem]) ?_
      simp only [List.getElem_toArray, List.getElem_cons_zero, List.getElem_cons_succ, Act.put, List.setIfInBounds_toArray, List.set_cons_zero, List.set_cons_succ]
      refine wpX_f _ (.int .i64 1) rfl rfl (fun X _ => by simp [go_sem]) ?_
      simp only [List.getElem_toArray, List.getElem_cons_zero, List.getElem_cons_succ, Act.put, List.setIfInBounds_toArray, List.set_cons_zero, List.set_cons_succ]
      refine wpX_f _ (.bool false) rfl rfl (fun X _ => by simp [go_sem]) ?_
      simp only [List.getElem_toArray, List.getElem_cons_zero, List.getElem_cons_succ, Act.put, List.setIfInBounds_toArray, List.set_cons_zero, List.set_cons_succ]
      refine wpX_f _ (.bool false) rfl rfl (fun X _ => by simp [go_sem]) ?_
      simp only [List.getElem_toArray, List.getElem_cons_zero, List.getElem_cons_succ, Act.put, List.setIfInBounds_toArray, List.set_cons_zero, List.set_cons_succ]
      refine wpX_fskip _ rfl rfl ?_
      simp only [List.getElem_toArray, List.getElem_cons_zero, List.getElem_cons_succ, Act.put, List.setIfInBounds_toArray, List.set_cons_zero, List.set_cons_succ]
      refine wpX_fskip _ rfl rfl ?_
      simp only [List.getElem_toArray, List.getElem_cons_zero, List.getElem_cons_succ, Act.put, List.setIfInBounds_toArray, List.set_cons_zero, List.set_cons_succ]
      refine wpX_f _ (.bool false) rfl rfl (fun X _ => by simp [go_sem]) ?_
      simp only [List.getElem_toArray, List.getElem_cons_zero, List.getElem_cons_succ, Act.put, List.setIfInBounds_toArray, List.set_cons_zero, List.set_cons_succ]
      refine wpX_f _ (.bool false) rfl rfl (fun X _ => by simp [go_sem]) ?_
      simp only [List.getElem_toArray, List.getElem_cons_zero, List.getElem_cons_succ, Act.put, List.setIfInBounds_toArray, List.set_cons_zero, List.set_cons_succ]
      refine wpX_fskip _ rfl rfl ?_
      simp only [List.getElem_toArray, List.getElem_cons_zero, List.getElem_cons_succ, Act.put, List.setIfInBounds_toArray, List.set_cons_zero, List.set_cons_succ]
      refine wpX_fskip _ rfl rfl ?_
      simp only [List.getElem_toArray, List.getElem_cons_zero, List.getElem_cons_succ, Act.put, List.setIfInBounds_toArray, List.set_cons_zero, List.set_cons_succ]
      refine wpX_fskip _ rfl rfl ?_
      simp only [List.getElem_toArray, List.getElem_cons_zero, List.getElem_cons_succ, Act.put, List.setIfInBounds_toArray, List.set_cons_zero, List.set_cons_succ]
      refine wpX_fskip _ rfl rfl ?_
      simp only [List.getElem_toArray, List.getElem_cons_zero, List.getElem_cons_succ, Act.put, List.setIfInBounds_toArray, List.set_cons_zero, List.set_cons_succ]
      refine wpX_fskip _ rfl rfl ?_
      simp only [List.getElem_toArray, List.getElem_cons_zero, List.getElem_cons_succ, Act.put, List.setIfInBounds_toArray, List.set_cons_zero, List.set_cons_succ]
      refine wpX_fskip _ rfl rfl ?_
      simp only [List.getElem_toArray, List.getElem_cons_zero, List.getElem_cons_succ, Act.put, List.setIfInBounds_toArray, List.set_cons_zero, List.set_cons_succ]
      refine wpX_fskip _ rfl rfl ?_
      simp only [List.getElem_toArray, List.getElem_cons_zero, List.getElem_cons_succ, Act.put, List.setIfInBounds_toArray, List.set_cons_zero, List.set_cons_succ]
      refine wpX_fskip _ rfl rfl ?_
      simp only [List.getElem_toArray, List.getElem_cons_zero, List.getElem_cons_succ, Act.put, List.setIfInBounds_toArray, List.set_cons_zero, List.set_cons_succ]
      refine wpX_fskip _ rfl rfl ?_
      simp only [List.getElem_toArray, List.getElem_cons_zero, List.getElem_cons_succ, Act.put, List.setIfInBounds_toArray, List.set_cons_zero, List.set_cons_succ]
      refine wpX_f _ (.bool false) rfl rfl (fun X _ => by simp [go_sem]) ?_
      simp only [List.getElem_toArray, List.getElem_cons_zero, List.getElem_cons_succ, Act.put, List.setIfInBounds_toArray, List.set_cons_zero, List.set_cons_succ]
      refine wpX_f _ (.bool false) rfl rfl (fun X _ => by simp [go_sem]) ?_
      simp only [List.getElem_toArray, List.getElem_cons_zero, List.getElem_cons_succ, Act.put, List.setIfInBounds_toArray, List.set_cons_zero, List.set_cons_succ]
      refine wpX_nil ?_
      replace hX := hideit (Ext.trans hC0 hX)
      clear hC0
      have A4 := hideit (A3.out.carry hX.out)
      have B4 := hideit (B3.out.carry hX.out)
      have K4 := hideit (K3.out.carry hX.out)
      have V4 := hideit (V3.out.ext hX.out)
      have hE4 := hideit (Ext.trans hE3.out hX.out)
      clear hX hE3 A3 B3 K3 V3
      clear Y3
      go_upto_region 5 with (fail)
      refine wp_region_lit ?_
      refine wpList_load_mid rfl 37 (.tmp 5) rfl (p + 1 + 1) 0 rfl (row 33 (kyv (.slice ka n kc) t)) _ K4.out.range Try.underlying37 rfl (by rw [row_length]; exact info37) ?_
      simp only [Act.put, List.setIfInBounds_toArray, List.set_cons_zero, List.set_cons_succ]
      by_cases hb : okE n xs
      · refine wpList_call rfl (by simp [go_sem]; exact ⟨rfl, rfl⟩) ?_
        refine (keys_ok _ n xs fs t _ V4.out hin.out hb).mono ?_
        rintro e w7 ⟨z, rfl, hz, hRz, hX⟩
        refine ⟨_, rfl, ?_⟩
        simp only [Act.put, List.setIfInBounds_toArray, List.set_cons_zero, List.set_cons_succ]
        have Z7 : Hid (BV (.slice (some ⟨z, 0, none⟩) 512 512) 512 (keB n xs fs t) w7) := hideit (.inr ⟨_, _, rfl, Nat.le_refl _, hRz.lie 512 (Nat.le_refl _)⟩)
        have hE7 := hideit (Ext.trans hE4.out hX)
        clear hX hE4 hRz hz A4 B4 K4 V4
        go_upto_region 8 with (fail)
        refine wp_region_lit ?_
        refine wpList_run rfl (.slice (some ⟨z, 0, none⟩) 512 512) (by simp [go_sem]) ?_
        simp only [Act.put, List.setIfInBounds_toArray, List.set_cons_zero, List.set_cons_succ]
        refine wpList_call rfl (by simp [go_sem]; exact ⟨rfl, rfl⟩) ?_
        refine (dec_keys _ n xs fs t w7 Z7.out).mono ?_
        rintro e w8 ⟨rfl, hX⟩
        refine ⟨_, rfl, ?_⟩
        simp only [Act.put, List.setIfInBounds_toArray, List.set_cons_zero, List.set_cons_succ]
        have hE8 := hideit (Ext.trans hE7.out hX)
        clear hX hE7 Z7
        refine wpList_run rfl (.tuple #[.agg (row 81 (slv false zF)).toArray, .int .i64 110]) (by simp [go_sem]) ?_
        simp only [Act.put, List.setIfInBounds_toArray, List.set_cons_zero, List.set_cons_succ]
        refine wpList_run rfl (.agg (row 81 (slv false zF)).toArray) (by simp [go_sem]) ?_
        simp only [Act.put, List.setIfInBounds_toArray, List.set_cons_zero, List.set_cons_succ]
        refine wpList_run rfl (.int .i64 110) (by simp [go_sem]) ?_
        simp only [Act.put, List.setIfInBounds_toArray, List.set_cons_zero, List.set_cons_succ]
        obtain ⟨H1, hA1, H2, hA2⟩ := made25 w8 false zF
        obtain ⟨s, hs⟩ : ∃ s, s = w8.heap.size := ⟨_, rfl⟩
        rw [← hs] at H1 H2 hA2
        refine wpList_to rfl (.pointer (some ⟨s, 0, none⟩)) (w8.alloc (.cells zk25 25)) (by rw [hs]; exact alloc25 rfl) ?_
        simp only [Act.put, List.setIfInBounds_toArray, List.set_cons_zero, List.set_cons_succ]
        refine wpList_store_mid rfl 25 (.tmp 13) (.tmp 65) rfl s 0 (row 81 (slv false zF)).toArray rfl rfl (by rw [row_size]; exact H1.there) (by rw [row_size]; exact info25) (row_one (slv_one _ _)) ?_
        rw [show (row 81 (slv false zF)).toArray.toList = row 81 (slv false zF) from rfl]
        have hE9 := hideit (Ext.trans hE8.out hA2)
        clear H1 hA1 H2 hA2 hs hE8
        generalize (w8.alloc (.cells zk25 25)).setCells s 0 (row 81 (slv false zF)) = w9 at *
        simp only [Act.put]
        go_wp2
        go_ret
        exact ⟨rfl, hE9.out⟩
      · refine wpList_call rfl (by simp [go_sem]; exact ⟨rfl, rfl⟩) ?_
        refine (keys_bad _ n xs fs t _ V4.out hin.out hb).mono ?_
        rintro e w7 ⟨rfl, hX⟩
        refine ⟨_, rfl, ?_⟩
        simp only [Act.put, List.setIfInBounds_toArray, List.set_cons_zero, List.set_cons_succ]
        have hE7 := hideit (Ext.trans hE4.out hX)
        clear hX hE4 A4 B4 K4 V4
        go_wp2
        go_ret
        exact ⟨rfl, hE7.out⟩
    · refine wpList_call rfl (by simp [go_sem]; exact ⟨rfl, rfl⟩) ?_
      refine (enc_no b g hb w2).mono ?_
      rintro e w3 ⟨rfl, hX⟩
      refine ⟨_, rfl, ?_⟩
      simp only [Act.put, List.setIfInBounds_toArray, List.set_cons_zero, List.set_cons_succ]
      have A3 := hideit (A2.out.carry hX)
      have B3 := hideit (B2.out.carry hX)
      have K3 := hideit (K2.out.carry hX)
      have V3 := hideit (V2.out.ext hX)
      have hE3 := hideit (Ext.trans hE2.out hX)
      clear hX hE2 A2 B2 K2 V2
      have hC0 : Ext w3 w3.drew := (Ext.refl w3).draw
      go_upto_region 3 with (fail)
      refine wp_region_lad (fun Y => Ext w3 Y) [(true, 0), (false, 1), (false, 2), (false, 3), (false, 4), (false, 5), (false, 6), (false, 7), (false, 8), (false, 9), (false, 10), (false, 11), (false, 12), (false, 13), (false, 14), (false, 15), (false, 16), (false, 17), (false, 18), (false, 19), (false, 20)] (by kernel_rfl) (by kernel_rfl) (by decide +kernel) (by decide +kernel) (by decide +kernel) (by decide +kernel) hC0 ?_
      refine wpX_call _ rfl rfl (by simp [go_sem]) ((lives_any _).mono ?_)
      rintro e X ⟨rfl, hX⟩
      refine ⟨_, rfl, fun Y => Ext w3 Y, fun _ h => h, ?_, ?_⟩
      · exact Ext.trans hC0 hX
      simp only [List.getElem_toArray, List.getElem_cons_zero, Act.put, List.setIfInBounds_toArray, List.set_cons_zero, List.set_cons_succ]
      refine wpX_f _ (.bool false) rfl rfl (fun X _ => by simp [go_sem]) ?_
      simp only [List.getElem_toArray, List.getElem_cons_zero, List.getElem_cons_succ, Act.put, List.setIfInBounds_toArray, List.set_cons_zero, List.set_cons_succ]
      refine wpX_f _ (.bool false) rfl rfl (fun X _ => by simp [go_sem]) ?_
      simp only [List.getElem_toArray, List.getElem_cons_zero, List.getElem_cons_succ, Act.put, List.setIfInBounds_toArray, List.set_cons_zero, List.set_cons_succ]
      refine wpX_f _ (.int .i64 1) rfl rfl (fun X _ => by simp [go_sem]) ?_
      simp only [List.getElem_toArray, List.getElem_cons_zero, List.getElem_cons_succ, Act.put, List.setIfInBounds_toArray, List.set_cons_zero, List.set_cons_succ]
      refine wpX_f _ (.bool false) rfl rfl (fun X _ => by simp [go_sem]) ?_
      simp only [List.getElem_toArray, List.getElem_cons_zero, List.getElem_cons_succ, Act.put, List.setIfInBounds_toArray, List.set_cons_zero, List.set_cons_succ]
      refine wpX_f _ (.bool false) rfl rfl (fun X _ => by simp [go_sem]) ?_
      simp only [List.getElem_toArray, List.getElem_cons_zero, List.getElem_cons_succ, Act.put, List.setIfInBounds_toArray, List.set_cons_zero, List.set_cons_succ]
      refine wpX_fskip _ rfl rfl ?_
      simp only [List.getElem_toArray, List.getElem_cons_zero, List.getElem_cons_succ, Act.put, List.setIfInBounds_toArray, List.set_cons_zero, List.set_cons_succ]
      refine wpX_fskip _ rfl rfl ?_
      simp only [List.getElem_toArray, List.getElem_cons_zero, List.getElem_cons_succ, Act.put, List.setIfInBounds_toArray, List.set_cons_zero, List.set_cons_succ]
      refine wpX_f _ (.bool false) rfl rfl (fun X _ => by simp [go_sem]) ?_
      simp only [List.getElem_toArray, List.getElem_cons_zero, List.getElem_cons_succ, Act.put, List.setIfInBounds_toArray, List.set_cons_zero, List.set_cons_succ]
      refine wpX_f _ (.bool false) rfl rfl (fun X _ => by simp [go_sem]) ?_
      simp only [List.getElem_toArray, List.getElem_cons_zero, List.getElem_cons_succ, Act.put, List.setIfInBounds_toArray, List.set_cons_zero, List.set_cons_succ]
      refine wpX_fskip _ rfl rfl ?_
      simp only [List.getElem_toArray, List.getElem_cons_zero, List.getElem_cons_succ, Act.put, List.setIfInBounds_toArray, List.set_cons_zero, List.set_cons_succ]
      refine wpX_fskip _ rfl rfl ?_
      simp only [List.getElem_toArray, List.getElem_cons_zero, List.getElem_cons_succ, Act.put, List.setIfInBounds_toArray, List.set_cons_zero, List.set_cons_succ]
      refine wpX_fskip _ rfl rfl ?_
      simp only [List.getElem_toArray, List.getElem_cons_zero, List.getElem_cons_succ, Act.put, List.setIfInBounds_toArray, List.set_cons_zero, List.set_cons_succ]
      refine wpX_fskip _ rfl rfl ?_
      simp only [List.getElem_toArray, List.getElem_cons_zero, List.getElem_cons_succ, Act.put, List.setIfInBounds_toArray, List.set_cons_zero, List.set_cons_succ]
      refine wpX_fskip _ rfl rfl ?_
      simp only [List.getElem_toArray, List.getElem_cons_zero, List.getElem_cons_succ, Act.put, List.setIfInBounds_toArray, List.set_cons_zero, List.set_cons_succ]
      refine wpX_fskip _ rfl rfl ?_
      simp only [List.getElem_toArray, List.getElem_cons_zero, List.getElem_cons_succ, Act.put, List.setIfInBounds_toArray, List.set_cons_zero, List.set_cons_succ]
      refine wpX_fskip _ rfl rfl ?_
      simp only [List.getElem_toArray, List.getElem_cons_zero, List.getElem_cons_succ, Act.put, List.setIfInBounds_toArray, List.set_cons_zero, List.set_cons_succ]
      refine wpX_fskip _ rfl rfl ?_
      simp only [List.getElem_toArray, List.getElem_cons_zero, List.getElem_cons_succ, Act.put, List.setIfInBounds_toArray, List.set_cons_zero, List.set_cons_succ]
      refine wpX_fskip _ rfl rfl ?_
      simp only [List.getElem_toArray, List.getElem_cons_zero, List.getElem_cons_succ, Act.put, List.setIfInBounds_toArray, List.set_cons_zero, List.set_cons_succ]
      refine wpX_f _ (.bool false) rfl rfl (fun X _ => by simp [go_sem]) ?_
      simp only [List.getElem_toArray, List.getElem_cons_zero, List.getElem_cons_succ, Act.put, List.setIfInBounds_toArray, List.set_cons_zero, List.set_cons_succ]
      refine wpX_f _ (.bool false) rfl rfl (fun X _ => by simp [go_sem]) ?_
      simp only [List.getElem_toArray, List.getElem_cons_zero, List.getElem_cons_succ, Act.put, List.setIfInBounds_toArray, List.set_cons_zero, List.set_cons_succ]
      refine wpX_nil ?_
      replace hX := hideit (Ext.trans hC0 hX)
      clear hC0
      have A4 := hideit (A3.out.carry hX.out)
      have B4 := hideit (B3.out.carry hX.out)
      have K4 := hideit (K3.out.carry hX.out)
      have V4 := hideit (V3.out.ext hX.out)
      have hE4 := hideit (Ext.trans hE3.out hX.out)
      clear hX hE3 A3 B3 K3 V3
      go_upto_region 5 with (fail)
      refine wp_region_lit ?_
      refine wpList_load_mid rfl 37 (.tmp 5) rfl (p + 1 + 1) 0 rfl (row 33 (kyv (.slice ka n kc) t)) _ K4.out.range Try.underlying37 rfl (by rw [row_length]; exact info37) ?_
      simp only [Act.put, List.setIfInBounds_toArray, List.set_cons_zero, List.set_cons_succ]
      by_cases hb : okE n xs
      · refine wpList_call rfl (by simp [go_sem]; exact ⟨rfl, rfl⟩) ?_
        refine (keys_ok _ n xs fs t _ V4.out hin.out hb).mono ?_
        rintro e w7 ⟨z, rfl, hz, hRz, hX⟩
        refine ⟨_, rfl, ?_⟩
        simp only [Act.put, List.setIfInBounds_toArray, List.set_cons_zero, List.set_cons_succ]
        have Z7 : Hid (BV (.slice (some ⟨z, 0, none⟩) 512 512) 512 (keB n xs fs t) w7) := hideit (.inr ⟨_, _, rfl, Nat.le_refl _, hRz.lie 512 (Nat.le_refl _)⟩)
        have hE7 := hideit (Ext.trans hE4.out hX)
        clear hX hE4 hRz hz A4 B4 K4 V4
        go_upto_region 8 with (fail)
        refine wp_region_lit ?_
        refine wpList_run rfl (.slice (some ⟨z, 0, none⟩) 512 512) (by simp [go_sem]) ?_
        simp only [Act.put, List.setIfInBounds_toArray, List.set_cons_zero, List.set_cons_succ]
        refine wpList_call rfl (by simp [go_sem]; exact ⟨rfl, rfl⟩) ?_
        refine (dec_keys _ n xs fs t w7 Z7.out).mono ?_
        rintro e w8 ⟨rfl, hX⟩
        refine ⟨_, rfl, ?_⟩
        simp only [Act.put, List.setIfInBounds_toArray, List.set_cons_zero, List.set_cons_succ]
        have hE8 := hideit (Ext.trans hE7.out hX)
        clear hX hE7 Z7
        refine wpList_run rfl (.tuple #[.agg (row 81 (slv false zF)).toArray, .int .i64 110]) (by simp [go_sem]) ?_
        simp only [Act.put, List.setIfInBounds_toArray, List.set_cons_zero, List.set_cons_succ]
        refine wpList_run rfl (.agg (row 81 (slv false zF)).toArray) (by simp [go_sem]) ?_
        simp only [Act.put, List.setIfInBounds_toArray, List.set_cons_zero, List.set_cons_succ]
        refine wpList_run rfl (.int .i64 110) (by simp [go_sem]) ?_
        simp only [Act.put, List.setIfInBounds_toArray, List.set_cons_zero, List.set_cons_succ]
        obtain ⟨H1, hA1, H2, hA2⟩ := made25 w8 false zF
        obtain ⟨s, hs⟩ : ∃ s, s = w8.heap.size := ⟨_, rfl⟩
        rw [← hs] at H1 H2 hA2
        refine wpList_to rfl (.pointer (some ⟨s, 0, none⟩)) (w8.alloc (.cells zk25 25)) (by rw [hs]; exact alloc25 rfl) ?_
        simp only [Act.put, List.setIfInBounds_toArray, List.set_cons_zero, List.set_cons_succ]
        refine wpList_store_mid rfl 25 (.tmp 13) (.tmp 65) rfl s 0 (row 81 (slv false zF)).toArray rfl rfl (by rw [row_size]; exact H1.there) (by rw [row_size]; exact info25) (row_one (slv_one _ _)) ?_
        rw [show (row 81 (slv false zF)).toArray.toList = row 81 (slv false zF) from rfl]
        have hE9 := hideit (Ext.trans hE8.out hA2)
        clear H1 hA1 H2 hA2 hs hE8
        generalize (w8.alloc (.cells zk25 25)).setCells s 0 (row 81 (slv false zF)) = w9 at *
        simp only [Act.put]
        go_wp2
        go_ret
        exact ⟨rfl, hE9.out⟩
      · refine wpList_call rfl (by simp [go_sem]; exact ⟨rfl, rfl⟩) ?_
        refine (keys_bad _ n xs fs t _ V4.out hin.out hb).mono ?_
        rintro e w7 ⟨rfl, hX⟩
        refine ⟨_, rfl, ?_⟩
        simp only [Act.put, List.setIfInBounds_toArray, List.set_cons_zero, List.set_cons_succ]
        have hE7 := hideit (Ext.trans hE4.out hX)
        clear hX hE4 A4 B4 K4 V4
        go_wp2
        go_ret
        exact ⟨rfl, hE7.out⟩

set_option maxRecDepth 100000 in
theorem lifted (os : Os) (started : os.Started) (H : Type) (enc : TypeId × Value → H) :
    ReturnsInHanded {} Try.checked os 7 .any (Rows.slotApartSpec.pre6 enc Try.prog Try.f7 Rows.slotApartRow.domain false) (Rows.slotApartSpec.post enc Try.prog Try.f7 false true false false) := by
  refine returnsInHanded_of_change_sized (C := Try.checked) own started (by kernel_rfl) Try.func7
    (ChangeSpec.witness6 (enc := enc) (C := Try.checked) false ⟨#[], #[.agg #[.bool false, .int .u8 0, .int .u8 0, .int .u8 0, .int .u8 0, .int .u8 0, .int .u8 0, .int .u8 0, .int .u8 0, .int .u8 0, .int .u8 0, .int .u8 0, .int .u8 0, .int .u8 0, .int .u8 0, .int .u8 0, .int .u8 0, .int .u8 0, .int .u8 0, .int .u8 0, .int .u8 0, .int .u8 0, .int .u8 0, .int .u8 0, .int .u8 0, .int .u8 0, .int .u8 0, .int .u8 0, .int .u8 0, .int .u8 0, .int .u8 0, .int .u8 0, .int .u8 0, .int .u8 0, .int .u8 0, .int .u8 0, .int .u8 0, .int .u8 0, .int .u8 0, .int .u8 0, .int .u8 0, .int .u8 0, .int .u8 0, .int .u8 0, .int .u8 0, .int .u8 0, .int .u8 0, .int .u8 0, .int .u8 0, .int .u8 0, .int .u8 0, .int .u8 0, .int .u8 0, .int .u8 0, .int .u8 0, .int .u8 0, .int .u8 0, .int .u8 0, .int .u8 0, .int .u8 0, .int .u8 0, .int .u8 0, .int .u8 0, .int .u8 0, .int .u8 0, .int .u8 0, .int .u8 0, .int .u8 0, .int .u8 0, .int .u8 0, .int .u8 0, .int .u8 0, .int .u8 0, .int .u8 0, .int .u8 0, .int .u8 0, .int .u8 0, .int .u8 0, .int .u8 0, .int .u8 0, .int .u8 0], .agg #[.bool false, .int .u8 0, .int .u8 0, .int .u8 0, .int .u8 0, .int .u8 0, .int .u8 0, .int .u8 0, .int .u8 0, .int .u8 0, .int .u8 0, .int .u8 0, .int .u8 0, .int .u8 0, .int .u8 0, .int .u8 0, .int .u8 0, .int .u8 0, .int .u8 0, .int .u8 0, .int .u8 0, .int .u8 0, .int .u8 0, .int .u8 0, .int .u8 0, .int .u8 0, .int .u8 0, .int .u8 0, .int .u8 0, .int .u8 0, .int .u8 0, .int .u8 0, .int .u8 0, .int .u8 0, .int .u8 0, .int .u8 0, .int .u8 0, .int .u8 0, .int .u8 0, .int .u8 0, .int .u8 0, .int .u8 0, .int .u8 0, .int .u8 0, .int .u8 0, .int .u8 0, .int .u8 0, .int .u8 0, .int .u8 0, .int .u8 0, .int .u8 0, .int .u8 0, .int .u8 0, .int .u8 0, .int .u8 0, .int .u8 0, .int .u8 0, .int .u8 0, .int .u8 0, .int .u8 0, .int .u8 0, .int .u8 0, .int .u8 0, .int .u8 0, .int .u8 0, .int .u8 0, .int .u8 0, .int .u8 0, .int .u8 0, .int .u8 0, .int .u8 0, .int .u8 0, .int .u8 0, .int .u8 0, .int .u8 0, .int .u8 0, .int .u8 0, .int .u8 0, .int .u8 0, .int .u8 0, .int .u8 0], .agg #[.slice none 0 0, .int .u8 0, .int .u8 0, .int .u8 0, .int .u8 0, .int .u8 0, .int .u8 0, .int .u8 0, .int .u8 0, .int .u8 0, .int .u8 0, .int .u8 0, .int .u8 0, .int .u8 0, .int .u8 0, .int .u8 0, .int .u8 0, .int .u8 0, .int .u8 0, .int .u8 0, .int .u8 0, .int .u8 0, .int .u8 0, .int .u8 0, .int .u8 0, .int .u8 0, .int .u8 0, .int .u8 0, .int .u8 0, .int .u8 0, .int .u8 0, .int .u8 0, .int .u8 0]], []⟩ 8 (by kernel_rfl) (by kernel_rfl) (by kernel_rfl) (by kernel_rfl)) ?_
  intro W base args ds gs before hval0 hW hcnd hsz0 _
  have hsz := hsz0
  have hval : ∀ (j : Nat) t v, Try.f7.params[j]? = some t → args[j]? = some v → Value.okWide Try.prog W .any base t v := hval0
  have hW' := hW
  obtain ⟨p, q, hA0, hV, rfl, hfz, hnd⟩ := hW
  have hA : DataW.TrodAll enc Try.prog W 0 (fun _ => true) true Try.f7.params.toList args.toList ds p := hA0
  rw [Try.params7] at hA hval hsz
  obtain ⟨v0, vs0, d0, ds0, p0, q0, hargs, rfl, rfl, h0, r0⟩ := trodAll_cons hA
  obtain ⟨v1, vs1, d1, ds1, p1, q1, rfl, rfl, rfl, h1, r1⟩ := trodAll_cons r0
  obtain ⟨v2, vs2, d2, ds2, p2, q2, rfl, rfl, rfl, h2, r2⟩ := trodAll_cons r1
  obtain ⟨rfl, rfl, rfl⟩ := trodAll_nil r2
  obtain rfl : args = #[v0, v1, v2] := by cases args; simp_all
  obtain ⟨rfl, rfl⟩ := trodVars_none hV
  have k0 := h0
  have lt0 : ∀ x ∈ p0, x.block < W.heap.size := by obtain ⟨m, hm⟩ := k0; exact DataW.trod_lt m _ _ _ hm
  have k1 := h1
  have lt1 : ∀ x ∈ p1, x.block < W.heap.size := by obtain ⟨m, hm⟩ := k1; exact DataW.trod_lt m _ _ _ hm
  have k2 := h2
  have lt2 : ∀ x ∈ p2, x.block < W.heap.size := by obtain ⟨m, hm⟩ := k2; exact DataW.trod_lt m _ _ _ hm
  obtain ⟨a0, f0, rfl⟩ := open_slot (hval 0 25 v0 rfl rfl) h0
  obtain ⟨a1, f1, rfl⟩ := open_slot (hval 1 25 v1 rfl rfl) h1
  have B2 := open_keys (hval 2 37 v2 rfl rfl) h2
  clear hA0 hval0
  refine (walk a0 f0 a1 f1 v2 W      B2).mono fun e W' ⟨he, bel⟩ => ?_
  subst he
  exact ⟨_, rfl, _, _, _, [], _, [], hW', trodAll_mk1 (shut_bool Try.underlying4 _), (trodAll_cons_mk (Below.trod laidOut (by kernel_rfl) (of_decide_eq_true (by kernel_rfl)) k0 bel lt0) (trodAll_cons_mk (Below.trod laidOut (by kernel_rfl) (of_decide_eq_true (by kernel_rfl)) k1 bel lt1) (trodAll_cons_mk (Below.trod laidOut (by kernel_rfl) (of_decide_eq_true (by kernel_rfl)) k2 bel lt2) trodAll_mk0))), rfl, bel.frame _, fun h => by cases h⟩

theorem over : Rows.slotApartRow.holds Try.pinned (OpenSpec.ofChange Rows.slotApartSpec) :=
  OpenClaim.holds_of_wide 7 Try.f7 rfl rfl rfl rfl rfl rfl rfl ⟨rfl, rfl, rfl, rfl, rfl⟩ rfl rfl rfl rfl rfl (by kernel_rfl) Try.func7 (by kernel_rfl)
    (of_decide_eq_true (by kernel_rfl)) (by unfold Func.isWrapper; first | (rw [if_pos (by decide +kernel)]; kernel_rfl) | (rw [if_neg (by decide +kernel)]; exact ⟨rfl, rfl⟩))
    (fun os started H enc _ => lifted os started H enc)
end Go.Proofs.Ytomalmnpojcloaa.slotApart
namespace Go.Proofs.Ytomalmnpojcloaa
theorem slotApart_holds : Rows.SlotApartSaid := slotApart.over
end Go.Proofs.Ytomalmnpojcloaa
