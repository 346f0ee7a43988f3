/-
  For every key and every message the law HmacReady returns true, and its arguments read behind the call as they read before; the package-level table of constants is as the program lays it.
-/
import Derived.Test.YthgflnjeojhgkaaDoorCards
import Derived.Test.YthgflnjeojhgkaaDoorTie
import Derived.WalkKit
import Derived.ProofKit
import Derived.OpenShut
import Derived.ShutString
import Derived.ChangeOld
import Derived.Below
import Derived.Deep.DeepHandedRow
import Derived.Lib.LaidTab
import Derived.Test.YthgflnjeojhgkaaDoorHLives
import Derived.Test.YthgflnjeojhgkaaDoorHRTag
import Derived.Test.YthgflnjeojhgkaaDoorKeg
import Derived.Test.YthgflnjeojhgkaaDoorFlo
import Derived.Laws.OwnMore
namespace Go.Proofs.YthgflnjeojhgkaaDoor.hmacReady
open Go.ChangeShapes Go.WideShapes Go.ChangeAt Go.RowKit
set_option linter.unusedVariables false

theorem own : ownKnob Tryd.prog.godebug = none := by kernel_rfl
theorem laidOut : laidOutB Tryd.prog = true := by kernel_rfl
theorem gTab : Tryd.prog.globalNamed "casket/sha.constants" = some 0 := by kernel_rfl
theorem gTabType : (Tryd.prog.globals[0]?).map (·.type) = some 62 := by kernel_rfl
theorem cellsG : Tryd.prog.cellsOf 62 = 64 := by kernel_rfl
theorem cellsE : Tryd.prog.cellsOf 51 = 1 := by kernel_rfl
def tabL : List Int := [1116352408, 1899447441, 3049323471, 3921009573, 961987163, 1508970993, 2453635748, 2870763221, 3624381080, 310598401, 607225278, 1426881987, 1925078388, 2162078206, 2614888103, 3248222580, 3835390401, 4022224774, 264347078, 604807628, 770255983, 1249150122, 1555081692, 1996064986, 2554220882, 2821834349, 2952996808, 3210313671, 3336571891, 3584528711, 113926993, 338241895, 666307205, 773529912, 1294757372, 1396182291, 1695183700, 1986661051, 2177026350, 2456956037, 2730485921, 2820302411, 3259730800, 3345764771, 3516065817, 3600352804, 4094571909, 275423344, 430227734, 506948616, 659060556, 883997877, 958139571, 1322822218, 1537002063, 1747873779, 1955562222, 2024104815, 2227730452, 2361852424, 2428436474, 2756734187, 3204031479, 3329325298]
theorem table {W : World} (h : laidMetH Tryd.prog Rows.hmacReadyRow.laid W) : Lib.TabIs Tryd.prog W "casket/sha.constants" .u32 tabL :=
  Lib.tabIs_of_head (rest := []) gTab gTabType Tryd.underlying62 Tryd.underlying51 cellsE cellsG h
theorem tab_kT : ∀ j, j < 64 → tabL.getD j 0 = ((kT j).toNat : Int) := by decide +kernel
theorem tabC {W : World} (h : laidMetH Tryd.prog Rows.hmacReadyRow.laid W) (h0 : 0 < W.heap.size) : TabC W :=
  ⟨fun j hj => by
    rw [← tab_kT j hj]
    exact (table h).cell gTab j hj, h0⟩

open Go.BigFrame
theorem cut2 {G : Prop} {R : Nat → Nat → World → Prop} (C : Nat → Nat → World → Prop) (h1 : (∀ b0 b1 X, C b0 b1 X → R b0 b1 X) → G) (h2 : ∀ b0 b1 X, C b0 b1 X → R b0 b1 X) : G := h1 h2
theorem wpAny_open {P : Program} {ops : Array Oper} {Q : Exit → Act → World → Prop} {f : Nat} {L : Array Bool} {a : Act} {w : World} (r : List Nat) (hr : Region.ready .any ops L = r) (hne : r ≠ []) (h : ∀ i ∈ r, wpOp P ops Q i (wpAny P .any ops Q f (L.setIfInBounds i true)) a w) : wpAny P .any ops Q (f + 1) L a w :=
  ⟨fun e => absurd (hr.symm.trans e) hne, fun i hi => h i (hr ▸ hi)⟩
def spO (B : Nat) : Sp := ⟨fun b => .slice (some ⟨b, 0, none⟩) 64 64, fun b X => OwnB B 5 (.slice (some ⟨b, 0, none⟩) 64 64) 64 (yv fun _ => 0#8) X⟩
theorem made_gen' (W X : World) (hX : Ext W.drew X) {o : Oper} (a : Act) (ho : o.op = .makeSlice 22 (.const (.int .i64 64)) (.const (.int .i64 64))) (_ : o.guard = none) : genUpon Tryd.prog X (spO W.heap.size) ((execOp a.eval o).run Tryd.prog X) := by
  have hinfo : (Tryd.prog.info? 5).map (fun i => (i.zero, i.size, i.bytes)) = some (some (.int .u8 0), 1, 1) := by kernel_rfl
  obtain ⟨ti, hi1, hi2, hi3, hi4⟩ := info_parts hinfo
  have hle : W.heap.size ≤ X.heap.size := Below.size (Ext.trans (Below.refl _ _).drew hX)
  have hby : ti.bytes * 64 ≤ 281474976710656 := by rw [hi4]; omega
  have hml : 64 ≤ maxLen := by unfold maxLen; omega
  obtain ⟨w', hrun, r1, r2⟩ := run_make_full (P := Tryd.prog) X X.heap.size 22 5 ti (.int .u8 0) 1 Tryd.underlying22 hi1 hi2 hi3 .i64 .i64 64 hby hml (Nat.le_refl _)
  have hE : Ext X w' := ⟨r2.os, r2.tape, r2.output, r2.size, fun k hk => r2.block k hk (by simp)⟩
  rw [made_row 64] at r1
  have hO : OwnB X.heap.size 5 (.slice (some ⟨X.heap.size, 0, none⟩) 64 64) 64 (yv fun _ => 0#8) w' := r1
  have hr2 : (execOp a.eval o).run Tryd.prog X = .ok (.value (.slice (some ⟨X.heap.size, 0, none⟩) 64 64)) w' := by
    have hrun' : (Instr.makeSlice 22 (.int .i64 64) (.int .i64 64)).run Tryd.prog X = .ok (.slice (some ⟨X.heap.size, 0, none⟩) 64 64) w' := hrun
    simp [execOp, ho, Act.eval, hrun', Result.andThen]
  rw [hr2]
  exact ⟨X.heap.size, Nat.le_refl _, (OwnB.lt hO X.heap.size rfl).2, rfl, hO.down hle, hE⟩
def spT (N : Nat) (M : Nat → BitVec 8) (v : Value) (i : Nat) : Sp := ⟨fun b => .slice (some ⟨b, 0, none⟩) 1 1, fun b X => Parts (.slice (some ⟨b, 0, none⟩) 1 1) 1 (fun _ => v) (fun _ => N) (fun _ => M) X⟩
theorem partsOne (X : World) (v : Value) (N : Nat) (M : Nat → BitVec 8) (h : BV v N M (X.alloc (.cells #[v] 22))) : Parts (.slice (some ⟨X.heap.size, 0, none⟩) 1 1) 1 (fun _ => v) (fun _ => N) (fun _ => M) (X.alloc (.cells #[v] 22)) :=
  ⟨.inr ⟨_, 1, rfl, Nat.le_refl _, lieNew X 1 _ 22 (0, 0) _ (fun j hj => by
    obtain rfl : j = 0 := by omega
    rfl)⟩, fun i hi => h⟩
theorem ready_ready (RF : Nat → BitVec 8) (j : Nat) (hj : j < 64) : readyF 64 RF j = RF j := by
  unfold readyF
  rw [if_neg (by omega), if_pos hj]
theorem tag_ready (RF m : Nat → BitVec 8) (n : Nat) : tagF 64 RF m n = shaF (catF (maskF RF 92#8) 64 (shaF (catF (maskF RF 54#8) 64 m) (64 + n))) 96 := by
  have h : ∀ x (m : Nat → BitVec 8) j, catF (maskF (readyF 64 RF) x) 64 m j = catF (maskF RF x) 64 m j := fun x m j => by
    unfold catF
    split
    · unfold maskF; rw [ready_ready RF j ‹_›]
    · rfl
  unfold tagF
  rw [shaF_congr _ (catF (maskF RF 54#8) 64 m) _ (fun j _ => h _ _ j), shaF_congr _ (catF (maskF RF 92#8) 64 (shaF (catF (maskF RF 54#8) 64 m) (64 + n))) _ (fun j _ => h _ _ j)]
set_option maxRecDepth 20000 in
set_option maxHeartbeats 3000000 in
theorem walk (v0 v1 : Value) (w : World) (A0 : BArg v0 w) (A1 : BArg v1 w) (hC : TabC w) : Calls Tryd.prog 7 #[v0, v1] w fun e w' => e = .returned (.bool true) ∧ Below w.heap.size w w' := by
  obtain ⟨l0, b0, hK, hl0⟩ := A0.bv
  obtain ⟨l1, b1, hM, hl1⟩ := A1.bv
  obtain ⟨o0, c0, rfl⟩ := hK.form
  obtain ⟨o1, c1, rfl⟩ := hM.form
  have hz2 := zero24
  have c23 := cutR23
  obtain ⟨RF, hRF0⟩ : ∃ RF, RF = readyF l0 b0 := ⟨_, rfl⟩
  obtain ⟨MI, hMI⟩ : ∃ M, M = maskF RF 54#8 := ⟨_, rfl⟩
  obtain ⟨MO, hMO⟩ : ∃ M, M = maskF RF 92#8 := ⟨_, rfl⟩
  obtain ⟨D, hDD⟩ : ∃ D, D = shaF (catF MI 64 b1) (64 + l1) := ⟨_, rfl⟩
  obtain ⟨R, hR⟩ : ∃ R, R = tagF l0 b0 b1 l1 := ⟨_, rfl⟩
  have hR0 : Hid (shaF (catF MO 64 D) (64 + 32) = R) := by rw [hR, hDD, hMI, hMO, hRF0]; rfl
  have hal : ∀ j, allF (fun _ => l1) (fun _ => b1) 1 j = b1 j := fun j => by
    show catF (fun _ => 0#8) (0 + 0) b1 j = b1 j
    unfold catF
    rw [if_neg (by omega)]
    rfl
  have hsm : sumL (fun _ => l1) 1 = l1 := by simp [sumL]
  have hR1 : Hid (tagF l0 b0 (allF (fun _ => l1) (fun _ => b1) 1) (sumL (fun _ => l1) 1) = R) := by
    rw [hsm, hR]
    exact tagF_congr _ _ _ _ _ fun j _ => hal j
  have hR2 : Hid (tagF 64 RF (allF (fun _ => l1) (fun _ => b1) 1) (sumL (fun _ => l1) 1) = R) := by
    rw [hsm, tagF_congr _ _ _ b1 _ (fun j _ => hal j), tag_ready, hR, hRF0]
    rfl
  have hq := eq24 R
  replace hC := hideit hC
  replace hK := hideit hK
  replace hM := hideit hM
  replace hMI := hideit hMI
  replace hMO := hideit hMO
  replace hDD := hideit hDD
  clear hR hal hsm A0 A1
  go_enter Tryd.func7, Tryd.ntmps7
  go_upto_region 1 with (fail)
  refine wp_region_lit ?_
  refine wpList_made w Tryd.underlying22 (by kernel_rfl) rfl (.const (.int .i64 64)) (.const (.int .i64 64)) rfl 64 rfl rfl (by omega) ?_
  intro x1 hO1 hE1
  have HOA := hideit hO1
  have HEA := hideit hE1
  obtain ⟨br, hbr⟩ : ∃ br, br = w.heap.size := ⟨_, rfl⟩
  have hbr0 : w.heap.size ≤ br := by omega
  have hbr1 : Hid (∀ a n c, (Value.slice o0 l0 c0) = .slice (some a) n c → a.block ≠ br) := fun a n c he => by
    rcases hK.out with ⟨h, _⟩ | ⟨a', cap', h, _, h3⟩
    · rw [h] at he; cases he
    · rw [h] at he
      injection he with e1 e2 e3
      injection e1 with e1
      subst e1
      have := h3.2
      omega
  have HO' : Hid (OwnB w.heap.size 5 (.slice (some ⟨br, 0, none⟩) 64 64) 64 (yv fun _ => 0#8) x1) := by rw [hbr]; exact HOA
  rw [← hbr]
  clear HOA hO1 hE1
  simp only [Act.put, List.setIfInBounds_toArray, List.set_cons_zero, List.set_cons_succ]
  refine wpList_run rfl (.slice (some ⟨br, 0, none⟩) 64 64) (by simp [go_sem]) ?_
  simp only [Act.put, List.setIfInBounds_toArray, List.set_cons_zero, List.set_cons_succ]
  by_cases h64 : 64 < l0
  · have i64 : (64 : Int) < (l0 : Int) := by omega
    obtain ⟨kf, hkf⟩ : ∃ kf, kf = shaF b0 l0 := ⟨_, rfl⟩
    have hRF : Hid (∀ j, (if j < 32 then kf j else 0#8) = RF j) := fun j => by
      rw [hRF0, hkf]
      unfold readyF
      rw [if_pos h64]
    have hs := sumV _ l0 b0 x1 (hK.out.ext HEA.out) (hC.out.ext HEA.out) (by omega)
    rw [← hkf] at hs
    replace hs := hideit hs
    have hbrx : br < x1.heap.size := (HO'.out.lt br rfl).2
    clear hkf hRF0 hbr
    go_upto_region 4 with (fail)
    refine wp_region_lit ?_
    refine wpList_run rfl (.slice o0 l0 c0) (by simp [go_sem]) ?_
    simp only [Act.put, List.setIfInBounds_toArray, List.set_cons_zero, List.set_cons_succ]
    refine wpList_call rfl (by simp [go_sem]) (hs.out.mono ?_)
    rintro e x3 ⟨rfl, hw3⟩
    refine ⟨_, rfl, ?_⟩
    simp only [Act.put, List.setIfInBounds_toArray, List.set_cons_zero, List.set_cons_succ]
    have HN := hideit (RowAt.new x3 32 (yv fun _ => 0#8) 23)
    have hE4 : Ext x3 (x3.alloc (.cells (row 32 (yv fun _ => 0#8)).toArray 23)) := (Below.refl _ _).alloc (Nat.le_refl _) _
    refine wpList_to rfl (.pointer (some ⟨x3.heap.size, 0, none⟩)) (x3.alloc (.cells (row 32 (yv fun _ => 0#8)).toArray 23)) (by simp [go_sem, hz2]) ?_
    simp only [Act.put, List.setIfInBounds_toArray, List.set_cons_zero, List.set_cons_succ]
    refine wpList_store_mid rfl 23 (.tmp 7) (.tmp 20) rfl _ 0 (row 32 (yv kf)).toArray rfl rfl (by rw [row_size]; exact HN.out.there) (by rw [row_size]; exact info24) (row_one fun _ _ => rfl) ?_
    have KE : Ext x1 ((x3.alloc (.cells (row 32 (yv fun _ => 0#8)).toArray 23)).setCells x3.heap.size 0 (row 32 (yv kf))) := below_setCells x3.heap.size (Below.size hw3) _ _ _ (Ext.trans hw3 hE4)
    have HK0 : BV (.slice (some ⟨x3.heap.size, 0, none⟩) 32 32) 32 kf ((x3.alloc (.cells (row 32 (yv fun _ => 0#8)).toArray 23)).setCells x3.heap.size 0 (row 32 (yv kf))) := .inr ⟨_, 32, rfl, Nat.le_refl _, (HN.out.cells (g' := yv kf)).lie 32 (Nat.le_refl _)⟩
    have HO0 := hideit (HO'.out.ext KE)
    have HE0 := hideit (Ext.trans HEA.out KE)
    have hb3 : br < x3.heap.size := Nat.lt_of_lt_of_le hbrx (Below.size hw3)
    replace HK0 := hideit HK0
    generalize (x3.alloc (.cells (row 32 (yv fun _ => 0#8)).toArray 23)).setCells x3.heap.size 0 (row 32 (yv kf)) = KW at *
    generalize x3.heap.size = b3 at *
    clear HN hE4 hw3 hs KE HO' HEA hbr1
    simp only [Act.put]
    go_upto_region 6 with (fail)
    have hkb : Hid (∀ a n c, (Value.slice (some (⟨b3, 0, none⟩ : Addr)) 32 32) = .slice (some a) n c → a.block ≠ br) := fun a n c he => by
      injection he with e1 e2 e3
      injection e1 with e1
      rw [← e1]
      show b3 ≠ br
      omega
    generalize (some (⟨b3, 0, none⟩ : Addr)) = koa at HK0 hkb ⊢
    go_wp2
    go_loopw [8] (fun iv wr => ∃ i : Nat, i ≤ 32 ∧ iv = .int .i64 (i : Int) ∧ OwnB w.heap.size 5 (.slice (some ⟨br, 0, none⟩) 64 64) 64 (yv fun j => if j < i then kf j else 0#8) wr ∧ BV (.slice koa 32 32) 32 kf wr ∧ Ext w wr) (fun iv _ => 32 - (intOf iv).toNat)
    case atStart => exact ⟨0, by omega, rfl, HO0.out.congr fun j _ => by simp [yv], HK0.out, HE0.out⟩
    case round =>
      clear HO0 HK0 HE0
      obtain ⟨i, hi, rfl, hO, hKK, hE⟩ := hrel
      have HO1 := hideit hO
      have HK1 := hideit hKK
      have HE1 := hideit hE
      clear hO hKK hE
      by_cases hlt : i < 32
      · have i0 : (0 : Int) ≤ (i : Int) := by omega
        have i1 : (i : Int) < 32 := by omega
        have i2 : (i : Int) < 64 := by omega
        have hi64 : i < 64 := by omega
        obtain ⟨q, cq, hv, _, _, _, hR⟩ := HO1.out.lies (by omega)
        injection hv with q1 q2 q3
        injection q1 with q1
        injection q1 with q1
        subst q1
        have ec := hR.1 i hi64
        have gc := hR.2.1 i hi64
        simp only [yv, if_neg (Nat.lt_irrefl i)] at ec
        clear hR q2 q3
        obtain ⟨ka, rfl, hcell⟩ : ∃ a, koa = some a ∧ wr.cell? (a.add i) = some (yv kf i) := by
          rcases HK1.out with ⟨h, h0⟩ | ⟨a, cap', h, _, h3⟩
          · omega
          · injection h with e1 e2 e3
            exact ⟨a, e1, h3.1 i hlt⟩
        simp only [yv] at hcell
        go_wp2
        refine ⟨⟨i + 1, by omega, by go_num, ?_, ?_, ?_⟩, by simp [intOf]; omega⟩
        · exact (HO1.out.set (b := br) rfl i hi64 (yv kf i)).congr fun j _ => by
            simp only [yv]
            by_cases e : j = i
            · subst e
              simp only [if_true]
              rw [if_pos (by omega)]
            · simp only [if_neg e]
              by_cases h : j < i
              · rw [if_pos h, if_pos (by omega)]
              · rw [if_neg h, if_neg (by omega)]
        · exact HK1.out.setCell _ _ (fun a n c he => hkb.out a n c he)
        · exact HE1.out.setCell hbr0 _
      · obtain rfl : i = 32 := by omega
        have HO := hideit (HO1.out.congr (g' := yv RF) fun j hj => by simp only [yv]; rw [hRF.out j])
        have HE := HE1
        clear HO1 HK1 HE1
        go_upto_region 10 with (fail)
        apply cut2 (fun bi bo X => bi ≠ bo ∧ wr.heap.size ≤ bi ∧ wr.heap.size ≤ bo ∧ OwnB wr.heap.size 5 (.slice (some ⟨bi, 0, none⟩) 64 64) 64 (yv fun _ => 0#8) X ∧ OwnB wr.heap.size 5 (.slice (some ⟨bo, 0, none⟩) 64 64) 64 (yv fun _ => 0#8) X ∧ Ext wr X)
        · intro key
          refine wp_region_any (by kernel_rfl) ?_
          refine wpAny_open (f := 3) [0, 1] (by decide +kernel) (by decide) ?_
          intro i hi
          rcases (by simpa using hi : i = 0 ∨ i = 1) with rfl | rfl
          · refine GenY.wpOp (W := wr.drew) (s := spO wr.heap.size) rfl (Ext.refl _) ⟨rfl, fun X hX => made_gen' wr X hX _ rfl rfl⟩ fun b x1 hb1 hb2 hS hx1 => ?_
            simp only [List.getElem_toArray, List.getElem_cons_zero, Act.put, List.setIfInBounds_toArray, List.set_cons_zero, List.set_cons_succ, spO]
            refine wpAny_pures (by kernel_rfl) (fun _ _ _ _ _ h => h) [2] [_] _ _ 2 rfl (by decide +kernel) ?_
            simp only [List.getElem_toArray, List.getElem_cons_zero, List.getElem_cons_succ]
            refine wpPure_one (.slice (some ⟨b, 0, none⟩) 64 64) rfl (fun X => by simp [go_sem]) ?_
            simp only [Act.put, List.setIfInBounds_toArray, List.set_cons_zero, List.set_cons_succ]
            refine wpPure_nil ?_
            refine wpAny_row _ 2 0 [1, 3] [_, _] (by decide +kernel) (by decide +kernel) (by decide +kernel) (by decide +kernel) (by decide +kernel) (by decide) rfl (by decide +kernel) (by decide +kernel) (by decide +kernel) (by decide +kernel) ?_
            intro x2 hx2
            simp only [List.getElem_toArray, List.getElem_cons_zero, List.getElem_cons_succ]
            refine wpList_made x2 Tryd.underlying22 (by kernel_rfl) rfl (.const (.int .i64 64)) (.const (.int .i64 64)) rfl 64 rfl rfl (by omega) ?_
            intro x3 hO3 hE3
            simp only [Act.put, List.setIfInBounds_toArray, List.set_cons_zero, List.set_cons_succ]
            refine wpList_run rfl (.slice (some ⟨x2.heap.size, 0, none⟩) 64 64) (by simp [go_sem]) ?_
            refine wpList_go ?_
            refine wpAny_done (by decide +kernel) ?_
            have hs1 : wr.heap.size ≤ x1.heap.size := Below.size (Ext.trans (Below.refl _ _).drew hx1)
            have hs2 : x1.heap.size ≤ x2.heap.size := Below.size hx2
            have hb0 : wr.heap.size ≤ b := hb1
            generalize x2.heap.size = bb at *
            exact key b bb x3 ⟨by omega, hb0, by omega, (OwnB.ext hS hx2).ext hE3, hO3.down (by omega), Ext.trans (Ext.trans (Ext.trans (Below.refl _ _).drew hx1) hx2) hE3⟩
          · refine GenY.wpOp (W := wr.drew) (s := spO wr.heap.size) rfl (Ext.refl _) ⟨rfl, fun X hX => made_gen' wr X hX _ rfl rfl⟩ fun b x1 hb1 hb2 hS hx1 => ?_
            simp only [List.getElem_toArray, List.getElem_cons_zero, List.getElem_cons_succ, Act.put, List.setIfInBounds_toArray, List.set_cons_zero, List.set_cons_succ, spO]
            refine wpAny_row _ 3 0 [0, 2, 3] [_, _, _] (by decide +kernel) (by decide +kernel) (by decide +kernel) (by decide +kernel) (by decide +kernel) (by decide) rfl (by decide +kernel) (by decide +kernel) (by decide +kernel) (by decide +kernel) ?_
            intro x2 hx2
            simp only [List.getElem_toArray, List.getElem_cons_zero, List.getElem_cons_succ]
            refine wpList_made x2 Tryd.underlying22 (by kernel_rfl) rfl (.const (.int .i64 64)) (.const (.int .i64 64)) rfl 64 rfl rfl (by omega) ?_
            intro x3 hO3 hE3
            simp only [Act.put, List.setIfInBounds_toArray, List.set_cons_zero, List.set_cons_succ]
            refine wpList_run rfl (.slice (some ⟨x2.heap.size, 0, none⟩) 64 64) (by simp [go_sem]) ?_
            simp only [Act.put, List.setIfInBounds_toArray, List.set_cons_zero, List.set_cons_succ]
            refine wpList_run rfl (.slice (some ⟨b, 0, none⟩) 64 64) (by simp [go_sem]) ?_
            refine wpList_go ?_
            refine wpAny_done (by decide +kernel) ?_
            have hs1 : wr.heap.size ≤ x1.heap.size := Below.size (Ext.trans (Below.refl _ _).drew hx1)
            have hs2 : x1.heap.size ≤ x2.heap.size := Below.size hx2
            have hb0 : wr.heap.size ≤ b := hb1
            generalize x2.heap.size = bb at *
            exact key bb b x3 ⟨by omega, by omega, hb0, hO3.down (by omega), (OwnB.ext hS hx2).ext hE3, Ext.trans (Ext.trans (Ext.trans (Below.refl _ _).drew hx1) hx2) hE3⟩
        rintro bi bo X1 ⟨hbb, hbi, hbo, hOi, hOo, hE1⟩
        have HOi := hideit hOi
        have HOo := hideit hOo
        have HOr := hideit (HO.out.ext hE1)
        have HE1 := hideit (Ext.trans HE.out hE1)
        have hbr : br < wr.heap.size := (HO.out.lt br rfl).2
        have hwr : w.heap.size ≤ wr.heap.size := Below.size HE.out
        clear hOi hOo hE1 HO HE
        have HOi2 := hideit (HOi.out.down hwr)
        have HOo2 := hideit (HOo.out.down hwr)
        have hb1 : br ≠ bi := by omega
        have hb2 : br ≠ bo := by omega
        have hb3 : w.heap.size ≤ bi := by omega
        have hb4 : w.heap.size ≤ bo := by omega
        clear HOi HOo hbi hbo hbr hwr
        go_wp2
        go_loopw [11] (fun iv wr => ∃ i : Nat, i ≤ 64 ∧ iv = .int .i64 (i : Int) ∧ OwnB w.heap.size 5 (.slice (some ⟨bi, 0, none⟩) 64 64) 64 (yv fun j => if j < i then MI j else 0#8) wr ∧ OwnB w.heap.size 5 (.slice (some ⟨bo, 0, none⟩) 64 64) 64 (yv fun j => if j < i then MO j else 0#8) wr ∧ OwnB w.heap.size 5 (.slice (some ⟨br, 0, none⟩) 64 64) 64 (yv RF) wr ∧ Ext w wr) (fun iv _ => 64 - (intOf iv).toNat)
        case atStart => exact ⟨0, by omega, rfl, HOi2.out.congr fun j _ => by simp [yv], HOo2.out.congr fun j _ => by simp [yv], HOr.out, HE1.out⟩
        case round =>
          clear HOi2 HOo2 HOr HE1
          obtain ⟨i, hi, rfl, hOi, hOo, hOr, hE⟩ := hrel
          have HOi := hideit hOi
          have HOo := hideit hOo
          have HOr := hideit hOr
          have HE := hideit hE
          clear hOi hOo hOr hE
          by_cases hlt : i < 64
          · have i0 : (0 : Int) ≤ (i : Int) := by omega
            have i1 : (i : Int) < 64 := by omega
            have hne := kept_ne wr.drew
            have e1 : ∀ k : Kept (Ext wr.drew), k.w.cell? ⟨br, i, none⟩ = some (.int .u8 ((RF i).toNat : Int)) := fun k => by
              obtain ⟨q, cq, hv, _, _, _, hR⟩ := HOr.out.lies (by omega)
              injection hv with q1 q2 q3
              injection q1 with q1
              injection q1 with q1
              subst q1
              exact hR.kept i hlt k
            have hx1 : bits .xor .u8 ((RF i).toNat : Int) 54 = ((MI i).toNat : Int) := (xor8' (RF i) 54#8).trans (by rw [hMI.out]; rfl)
            have hx2 : bits .xor .u8 ((RF i).toNat : Int) 92 = ((MO i).toNat : Int) := (xor8' (RF i) 92#8).trans (by rw [hMO.out]; rfl)
            go_upto_region 14 with (fail)
            refine wp_region_flo (fun _ => True) (fun _ _ => trivial) [0, 1, 4, 5, 6, 7, 8, 9, 10, 11, 12] [2, 3, 13] [14, 15, 16, 17] [_, _, _, _, _, _, _, _, _, _, _] (by kernel_rfl) (by kernel_rfl) (by decide) rfl (by decide +kernel) (by decide +kernel) (by decide +kernel) (by decide +kernel) (by decide +kernel) (by decide +kernel) (by decide +kernel) (by decide +kernel) (by decide +kernel) ?_
            simp only [List.getElem_toArray, List.getElem_cons_zero, List.getElem_cons_succ]
            refine wpStrong_run 11 rfl ?_
            simp only [List.take_succ_cons, List.take_zero, List.drop_succ_cons, List.drop_zero]
            repeat (go_big_quiet_step (fail))
            refine wpQuiet_nil ?_
            refine wpStrong_nil ?_
            refine wpF_one _ (.slice (some ⟨bo, 0, none⟩) 64 64) rfl rfl (fun X _ => by simp [go_sem]) ?_
            simp only [List.getElem_toArray, List.getElem_cons_zero, List.getElem_cons_succ, Act.put, List.setIfInBounds_toArray, List.set_cons_zero, List.set_cons_succ]
            refine wpF_one _ (.int .i64 (i : Int)) rfl rfl (fun X _ => by simp [go_sem]) ?_
            simp only [List.getElem_toArray, List.getElem_cons_zero, List.getElem_cons_succ, Act.put, List.setIfInBounds_toArray, List.set_cons_zero, List.set_cons_succ]
            refine wpF_one _ (.int .u8 ((MO i).toNat : Int)) rfl rfl (fun X _ => by simp [go_sem, hx2]) ?_
            simp only [List.getElem_toArray, List.getElem_cons_zero, List.getElem_cons_succ, Act.put, List.setIfInBounds_toArray, List.set_cons_zero, List.set_cons_succ]
            refine wpF_nil ?_
            intro X hX
            have hwX : Ext wr X := Ext.trans (Below.refl _ _).drew hX
            have HOi' := hideit (HOi.out.ext hwX)
            have HOo' := hideit (HOo.out.ext hwX)
            have HOr' := hideit (HOr.out.ext hwX)
            have HE' := hideit (Ext.trans HE.out hwX)
            clear hwX hX HOi HOo HOr HE hne e1
            obtain ⟨ei, gi⟩ : X.cell? ⟨bi, i, none⟩ = some (.int .u8 0) ∧ X.frozen? ⟨bi, i, none⟩ = false := by
              obtain ⟨q, cq, hv, _, _, _, hR⟩ := HOi'.out.lies (by omega)
              injection hv with q1 q2 q3
              injection q1 with q1
              injection q1 with q1
              subst q1
              refine ⟨?_, hR.2.1 i hlt⟩
              have := hR.1 i hlt
              simpa [yv] using this
            refine wpL_val _ (.pointer (some ⟨bi, i, none⟩)) rfl rfl (by simp [go_sem, i0, i1]) trivial ?_
            simp only [List.getElem_toArray, List.getElem_cons_zero, List.getElem_cons_succ, Act.put, List.setIfInBounds_toArray, List.set_cons_zero, List.set_cons_succ]
            refine wpL_skip _ (X.setCell ⟨bi, i, none⟩ (.int .u8 ((MI i).toNat : Int))) rfl rfl (by simp [go_sem, ei, gi]) trivial ?_
            simp only [List.getElem_toArray, List.getElem_cons_zero, List.getElem_cons_succ, Act.put]
            have HOi2 : OwnB w.heap.size 5 (.slice (some ⟨bi, 0, none⟩) 64 64) 64 (yv fun j => if j < i + 1 then MI j else 0#8) (X.setCell ⟨bi, i, none⟩ (.int .u8 ((MI i).toNat : Int))) := (HOi'.out.set (b := bi) rfl i hlt (yv MI i)).congr fun j _ => by
              simp only [yv]
              by_cases e : j = i
              · subst e
                simp only [if_true]
                rw [if_pos (by omega)]
              · simp only [if_neg e]
                by_cases h : j < i
                · rw [if_pos h, if_pos (by omega)]
                · rw [if_neg h, if_neg (by omega)]
            have HOo2 := hideit (HOo'.out.other ⟨bi, i, none⟩ (by simp [Value.ownBlock]; omega) (.int .u8 ((MI i).toNat : Int)))
            have HOr2 := hideit (HOr'.out.other ⟨bi, i, none⟩ (by simp [Value.ownBlock]; omega) (.int .u8 ((MI i).toNat : Int)))
            have HE2 := hideit (HE'.out.setCell (p := ⟨bi, i, none⟩) hb3 (.int .u8 ((MI i).toNat : Int)))
            replace HOi2 := hideit HOi2
            generalize X.setCell ⟨bi, i, none⟩ (.int .u8 ((MI i).toNat : Int)) = Y at *
            clear ei gi HOi' HOo' HOr' HE'
            obtain ⟨eo, go⟩ : Y.cell? ⟨bo, i, none⟩ = some (.int .u8 0) ∧ Y.frozen? ⟨bo, i, none⟩ = false := by
              obtain ⟨q, cq, hv, _, _, _, hR⟩ := HOo2.out.lies (by omega)
              injection hv with q1 q2 q3
              injection q1 with q1
              injection q1 with q1
              subst q1
              refine ⟨?_, hR.2.1 i hlt⟩
              have := hR.1 i hlt
              simpa [yv] using this
            refine wpL_val _ (.pointer (some ⟨bo, i, none⟩)) rfl rfl (by simp [go_sem, i0, i1]) trivial ?_
            simp only [List.getElem_toArray, List.getElem_cons_zero, List.getElem_cons_succ, Act.put, List.setIfInBounds_toArray, List.set_cons_zero, List.set_cons_succ]
            refine wpL_skip _ (Y.setCell ⟨bo, i, none⟩ (.int .u8 ((MO i).toNat : Int))) rfl rfl (by simp [go_sem, eo, go]) trivial ?_
            refine wpL_nil ?_
            simp only [Act.put]
            go_wp2
            refine ⟨⟨i + 1, by omega, by go_num, ?_, ?_, ?_, ?_⟩, by simp [intOf]; omega⟩
            · exact HOi2.out.other ⟨bo, i, none⟩ (by simp [Value.ownBlock]; omega) _
            · exact (HOo2.out.set (b := bo) rfl i hlt (yv MO i)).congr fun j _ => by
                simp only [yv]
                by_cases e : j = i
                · subst e
                  simp only [if_true]
                  rw [if_pos (by omega)]
                · simp only [if_neg e]
                  by_cases h : j < i
                  · rw [if_pos h, if_pos (by omega)]
                  · rw [if_neg h, if_neg (by omega)]
            · exact HOr2.out.other ⟨bo, i, none⟩ (by simp [Value.ownBlock]; omega) _
            · exact HE2.out.setCell (p := ⟨bo, i, none⟩) hb4 _
          · obtain rfl : i = 64 := by omega
            have HOi := hideit (HOi.out.congr (g' := yv MI) fun j hj => by simp only [yv]; rw [if_pos hj])
            have HOo := hideit (HOo.out.congr (g' := yv MO) fun j hj => by simp only [yv]; rw [if_pos hj])
            rename_i HOi0 HOo0
            clear HOi0 HOo0
            go_upto_region 15 with (fail)
            refine wp_region_lit ?_
            refine wpList_run rfl (.slice (some ⟨bi, 0, none⟩) 64 64) (by simp [go_sem]) ?_
            simp only [Act.put, List.setIfInBounds_toArray, List.set_cons_zero, List.set_cons_succ]
            refine wpList_run rfl (.slice o1 l1 c1) (by simp [go_sem]) ?_
            simp only [Act.put, List.setIfInBounds_toArray, List.set_cons_zero, List.set_cons_succ]
            refine wpList_growV (v := .slice (some ⟨bi, 0, none⟩) 64 64) (n := 64) (base := w.heap.size) (g := yv MI) elem22 rfl (.tmp 57) (.tmp 58) rfl rfl HOi.out _ l1 b1 (yv (catF MI 64 b1)) rfl (hM.out.ext HE.out) (fun j hj => by simp only [yv]; unfold catF; rw [if_pos hj]) (fun j hj => by simp only [yv]; unfold catF; rw [if_neg (by omega), Nat.add_sub_cancel_left]) (by omega) (Below.size HE.out) ?_
            intro v5 x5 hO5 hg5
            have HE5 := hideit (grown_ext HE.out hg5 (fun k hk => (HOi.out.lt k hk).1))
            have HOo5 := hideit (HOo.out.kept hg5 (.inr (by simp [Value.ownBlock]; omega)))
            have HOr5 := hideit (HOr.out.kept hg5 (.inr (by simp [Value.ownBlock]; omega)))
            have HV5 := hideit (OwnB.bv hO5)
            obtain ⟨o5, c5, rfl⟩ := HV5.out.form
            have hs5 := sumV _ (64 + l1) _ x5 HV5.out (hC.out.ext HE5.out) (by omega)
            rw [← hDD.out] at hs5
            replace hs5 := hideit hs5
            clear hO5 hg5 HV5 HOi HOo HOr HE
            simp only [Act.put, List.setIfInBounds_toArray, List.set_cons_zero, List.set_cons_succ]
            refine wpList_call rfl (by simp [go_sem]) (hs5.out.mono ?_)
            rintro e x6 ⟨rfl, hw6⟩
            refine ⟨_, rfl, ?_⟩
            simp only [Act.put, List.setIfInBounds_toArray, List.set_cons_zero, List.set_cons_succ]
            have HN := hideit (RowAt.new x6 32 (yv fun _ => 0#8) 23)
            have hE7 : Ext x6 (x6.alloc (.cells (row 32 (yv fun _ => 0#8)).toArray 23)) := (Below.refl _ _).alloc (Nat.le_refl _) _
            refine wpList_to rfl (.pointer (some ⟨x6.heap.size, 0, none⟩)) (x6.alloc (.cells (row 32 (yv fun _ => 0#8)).toArray 23)) (by simp [go_sem, hz2]) ?_
            simp only [Act.put, List.setIfInBounds_toArray, List.set_cons_zero, List.set_cons_succ]
            refine wpList_store_mid rfl 23 (.tmp 12) (.tmp 60) rfl _ 0 (row 32 (yv D)).toArray rfl rfl (by rw [row_size]; exact HN.out.there) (by rw [row_size]; exact info24) (row_one fun _ _ => rfl) ?_
            have hE8 : Ext x5 ((x6.alloc (.cells (row 32 (yv fun _ => 0#8)).toArray 23)).setCells x6.heap.size 0 (row 32 (yv D))) := Ext.trans hw6 (below_setCells x6.heap.size (Nat.le_refl _) _ _ _ hE7)
            have HD8 := hideit (HN.out.cells (g' := yv D))
            have HOo8 := hideit (HOo5.out.ext hE8)
            have HOr8 := hideit (HOr5.out.ext hE8)
            have HE8 := hideit (Ext.trans HE5.out hE8)
            have hbd : Hid (bo < x6.heap.size) := Nat.lt_of_lt_of_le (HOo5.out.lt bo rfl).2 (Below.size hw6)
            generalize (x6.alloc (.cells (row 32 (yv fun _ => 0#8)).toArray 23)).setCells x6.heap.size 0 (row 32 (yv D)) = x8 at *
            generalize x6.heap.size = bD at *
            clear HN hE7 hE8 hw6 hs5 HOo5 HOr5 HE5
            simp only [Act.put]
            go_upto_region 16 with (fail)
            refine wp_region_lit ?_
            refine wpList_run rfl (.slice (some ⟨bo, 0, none⟩) 64 64) (by simp [go_sem]) ?_
            simp only [Act.put, List.setIfInBounds_toArray, List.set_cons_zero, List.set_cons_succ]
            refine wpList_run rfl (.slice (some ⟨bD, 0, none⟩) 32 32) (by simp [go_sem, c23]) ?_
            simp only [Act.put, List.setIfInBounds_toArray, List.set_cons_zero, List.set_cons_succ]
            refine wpList_growV (v := .slice (some ⟨bo, 0, none⟩) 64 64) (n := 64) (base := w.heap.size) (g := yv MO) elem22 rfl (.tmp 61) (.tmp 62) rfl rfl HOo8.out _ 32 D (yv (catF MO 64 D)) rfl (.inr ⟨_, 32, rfl, Nat.le_refl _, HD8.out.lie 32 (Nat.le_refl _)⟩) (fun j hj => by simp only [yv]; unfold catF; rw [if_pos hj]) (fun j hj => by simp only [yv]; unfold catF; rw [if_neg (by omega), Nat.add_sub_cancel_left]) (by omega) (Below.size HE8.out) ?_
            intro v9 x9 hO9 hg9
            have HE9 := hideit (grown_ext HE8.out hg9 (fun k hk => (HOo8.out.lt k hk).1))
            have HOr9 := hideit (HOr8.out.kept hg9 (.inr (by simp [Value.ownBlock]; omega)))
            have HV9 := hideit (OwnB.bv hO9)
            obtain ⟨o9, c9, rfl⟩ := HV9.out.form
            have hs9 := sumV _ (64 + 32) _ x9 HV9.out (hC.out.ext HE9.out) (by omega)
            rw [hR0.out] at hs9
            replace hs9 := hideit hs9
            clear hO9 hg9 HV9 HOo8 HOr8 HE8 HD8 hbd
            simp only [Act.put, List.setIfInBounds_toArray, List.set_cons_zero, List.set_cons_succ]
            refine wpList_call rfl (by simp [go_sem]) (hs9.out.mono ?_)
            rintro e x10 ⟨rfl, hw10⟩
            refine ⟨_, rfl, ?_⟩
            simp only [Act.put, List.setIfInBounds_toArray, List.set_cons_zero, List.set_cons_succ]
            have HN := hideit (RowAt.new x10 32 (yv fun _ => 0#8) 23)
            have hE11 : Ext x10 (x10.alloc (.cells (row 32 (yv fun _ => 0#8)).toArray 23)) := (Below.refl _ _).alloc (Nat.le_refl _) _
            refine wpList_to rfl (.pointer (some ⟨x10.heap.size, 0, none⟩)) (x10.alloc (.cells (row 32 (yv fun _ => 0#8)).toArray 23)) (by simp [go_sem, hz2]) ?_
            simp only [Act.put, List.setIfInBounds_toArray, List.set_cons_zero, List.set_cons_succ]
            refine wpList_store_mid rfl 23 (.tmp 13) (.tmp 64) rfl _ 0 (row 32 (yv R)).toArray rfl rfl (by rw [row_size]; exact HN.out.there) (by rw [row_size]; exact info24) (row_one fun _ _ => rfl) ?_
            have hE12 : Ext x9 ((x10.alloc (.cells (row 32 (yv fun _ => 0#8)).toArray 23)).setCells x10.heap.size 0 (row 32 (yv R))) := Ext.trans hw10 (below_setCells x10.heap.size (Nat.le_refl _) _ _ _ hE11)
            have HW := hideit (HN.out.cells (g' := yv R))
            have HRB := hideit (OwnB.bv (HOr9.out.ext hE12))
            have HE := hideit (Ext.trans HE9.out hE12)
            generalize (x10.alloc (.cells (row 32 (yv fun _ => 0#8)).toArray 23)).setCells x10.heap.size 0 (row 32 (yv R)) = x12 at *
            generalize x10.heap.size = bW at *
            clear HN hE11 hE12 hw10 hs9 HOr9 HE9
            simp only [Act.put]
            go_upto_region 17 with (fail)
            refine wp_region_any (by kernel_rfl) ?_
            refine wpAny_row _ 18 16 [0, 1] [_, _] (by decide +kernel) (by decide +kernel) (by decide +kernel) (by decide +kernel) (by decide +kernel) (by decide) rfl (by decide +kernel) (by decide +kernel) (by decide +kernel) (by decide +kernel) ?_
            intro y1 hy1
            simp only [List.getElem_toArray, List.getElem_cons_zero, List.getElem_cons_succ]
            have HL1 := hideit (Ext.trans (Below.refl _ _).drew hy1)
            refine wpList_call rfl (by simp [go_sem]) ((lives_any y1 (hC.out.ext (Ext.trans HE.out HL1.out))).mono ?_)
            rintro e y2 ⟨rfl, hw2⟩
            refine ⟨_, rfl, ?_⟩
            simp only [Act.put, List.setIfInBounds_toArray, List.set_cons_zero, List.set_cons_succ]
            have HX := hideit (Ext.trans HL1.out hw2)
            clear hy1 hw2 HL1
            refine wpList_run rfl (.bool true) (by simp [go_sem]) ?_
            simp only [Act.put, List.setIfInBounds_toArray, List.set_cons_zero, List.set_cons_succ]
            refine wpList_go ?_
            have hne := kept_ne y2
            refine wpAny_pures (by kernel_rfl) (fun _ _ _ _ _ h => h) [2, 3] [_, _] _ _ 14 rfl (by decide +kernel) ?_
            simp only [List.getElem_toArray, List.getElem_cons_zero, List.getElem_cons_succ]
            refine wpPure_one (.slice o0 l0 c0) rfl (fun X => by simp [go_sem]) ?_
            simp only [Act.put, List.setIfInBounds_toArray, List.set_cons_zero, List.set_cons_succ]
            refine wpPure_one (.slice o1 l1 c1) rfl (fun X => by simp [go_sem]) ?_
            simp only [Act.put, List.setIfInBounds_toArray, List.set_cons_zero, List.set_cons_succ]
            refine wpPure_nil ?_
            refine wpAny_seg _ 14 8 (spT l1 b1 (.slice o1 l1 c1)) (fun _ => .agg (row 32 (yv R)).toArray) (fun _ _ _ _ hh hk => Parts.ext hh hk) [6] [4] [5] [7, 8, 9] [_] [_, _, _] (by decide +kernel) (by decide +kernel) (by decide +kernel) (by decide +kernel) (by decide +kernel) (by decide) rfl rfl (by decide +kernel) (by decide +kernel) (by decide +kernel) (by decide +kernel) (by decide +kernel) (by decide +kernel) (by decide +kernel) (by decide +kernel) (by decide +kernel) (by decide +kernel) (by decide +kernel) ?_
            simp only [List.getElem_toArray, List.getElem_cons_zero, List.getElem_cons_succ]
            refine wpStrong_run 1 rfl ?_
            simp only [List.take_succ_cons, List.take_zero, List.drop_succ_cons, List.drop_zero]
            go_big_quiet_want
            refine loadQ 23 (.tmp 13) bW 0 32 (yv R) rfl rfl (fun w' hw' => (HW.out.carry (Ext.trans HX.out hw')).range) Tryd.underlying23 rfl info24 ?_
            simp only [Act.put, List.setIfInBounds_toArray, List.set_cons_zero, List.set_cons_succ]
            go_big_quiet_on
            refine wpQuiet_nil ?_
            refine wpStrong_nil ?_
            refine wpN_one _ rfl (GenY.make rfl (fun X hX => ⟨.cells #[.slice o1 l1 c1] 22, by simp [go_sem, spT], partsOne X _ l1 b1 ((hM.out.ext (Ext.trans HE.out (Ext.trans HX.out hX))).ext ((Below.refl _ _).alloc (Nat.le_refl _) _))⟩)) ?_
            intro b hb1 _
            simp only [List.getElem_toArray, List.getElem_cons_zero, List.getElem_cons_succ, Act.put, List.setIfInBounds_toArray, List.set_cons_zero, List.set_cons_succ]
            refine wpN_nil ?_
            refine wpT_one _ rfl (StrongT.call (f := 10) (args := #[.slice o0 l0 c0, .slice (some ⟨b, 0, none⟩) 1 1]) rfl (fun X => by simp [go_sem, spT]) (fun X hX hH => ?_)) ?_
            · have ht := Tag_any _ _ l0 1 b0 _ _ _ X (hK.out.ext (Ext.trans HE.out (Ext.trans HX.out hX))) (hH (b, 4) (by simp)).1 (hC.out.ext (Ext.trans HE.out (Ext.trans HX.out hX))) (by omega) (by omega) (by show 0 + l1 < _; omega)
              rw [hR1.out] at ht
              exact ht
            simp only [List.getElem_toArray, List.getElem_cons_zero, List.getElem_cons_succ, Act.put, List.setIfInBounds_toArray, List.set_cons_zero, List.set_cons_succ]
            refine wpT_nil ?_
            intro w31 hw31 _
            have HX31 := hideit (Ext.trans HX.out hw31)
            clear hw31 HX hne
            refine wpList_runW rfl (.bool true) (by simp [go_sem, hq]) ?_
            simp only [Act.put, List.setIfInBounds_toArray, List.set_cons_zero, List.set_cons_succ]
            refine wpList_run rfl (.bool true) (by simp [go_sem]) ?_
            simp only [Act.put, List.setIfInBounds_toArray, List.set_cons_zero, List.set_cons_succ]
            refine wpList_run rfl (.bool true) (by simp [go_sem]) ?_
            simp only [Act.put, List.setIfInBounds_toArray, List.set_cons_zero, List.set_cons_succ]
            refine wpList_go ?_
            have HX := HX31
            clear HX31
            have hne := kept_ne w31
            refine wpAny_pures (by kernel_rfl) (fun _ _ _ _ _ h => h) [10, 11] [_, _] _ _ 6 rfl (by decide +kernel) ?_
            simp only [List.getElem_toArray, List.getElem_cons_zero, List.getElem_cons_succ]
            refine wpPure_one (.slice (some ⟨br, 0, none⟩) 64 64) rfl (fun X => by simp [go_sem]) ?_
            simp only [Act.put, List.setIfInBounds_toArray, List.set_cons_zero, List.set_cons_succ]
            refine wpPure_one (.slice o1 l1 c1) rfl (fun X => by simp [go_sem]) ?_
            simp only [Act.put, List.setIfInBounds_toArray, List.set_cons_zero, List.set_cons_succ]
            refine wpPure_nil ?_
            refine wpAny_seg _ 6 0 (spT l1 b1 (.slice o1 l1 c1)) (fun _ => .agg (row 32 (yv R)).toArray) (fun _ _ _ _ hh hk => Parts.ext hh hk) [14] [12] [13] [15, 16, 17] [_] [_, _, _] (by decide +kernel) (by decide +kernel) (by decide +kernel) (by decide +kernel) (by decide +kernel) (by decide) rfl rfl (by decide +kernel) (by decide +kernel) (by decide +kernel) (by decide +kernel) (by decide +kernel) (by decide +kernel) (by decide +kernel) (by decide +kernel) (by decide +kernel) (by decide +kernel) (by decide +kernel) ?_
            simp only [List.getElem_toArray, List.getElem_cons_zero, List.getElem_cons_succ]
            refine wpStrong_run 1 rfl ?_
            simp only [List.take_succ_cons, List.take_zero, List.drop_succ_cons, List.drop_zero]
            go_big_quiet_want
            refine loadQ 23 (.tmp 13) bW 0 32 (yv R) rfl rfl (fun w' hw' => (HW.out.carry (Ext.trans HX.out hw')).range) Tryd.underlying23 rfl info24 ?_
            simp only [Act.put, List.setIfInBounds_toArray, List.set_cons_zero, List.set_cons_succ]
            go_big_quiet_on
            refine wpQuiet_nil ?_
            refine wpStrong_nil ?_
            refine wpN_one _ rfl (GenY.make rfl (fun X hX => ⟨.cells #[.slice o1 l1 c1] 22, by simp [go_sem, spT], partsOne X _ l1 b1 ((hM.out.ext (Ext.trans HE.out (Ext.trans HX.out hX))).ext ((Below.refl _ _).alloc (Nat.le_refl _) _))⟩)) ?_
            intro b hb1 _
            simp only [List.getElem_toArray, List.getElem_cons_zero, List.getElem_cons_succ, Act.put, List.setIfInBounds_toArray, List.set_cons_zero, List.set_cons_succ]
            refine wpN_nil ?_
            refine wpT_one _ rfl (StrongT.call (f := 10) (args := #[.slice (some ⟨br, 0, none⟩) 64 64, .slice (some ⟨b, 0, none⟩) 1 1]) rfl (fun X => by simp [go_sem, spT]) (fun X hX hH => ?_)) ?_
            · have ht := Tag_any _ _ 64 1 RF _ _ _ X (HRB.out.ext (Ext.trans HX.out hX)) (hH (b, 12) (by simp)).1 (hC.out.ext (Ext.trans HE.out (Ext.trans HX.out hX))) (by omega) (by omega) (by show 0 + l1 < _; omega)
              rw [hR2.out] at ht
              exact ht
            simp only [List.getElem_toArray, List.getElem_cons_zero, List.getElem_cons_succ, Act.put, List.setIfInBounds_toArray, List.set_cons_zero, List.set_cons_succ]
            refine wpT_nil ?_
            intro w32 hw32 _
            have HX32 := hideit (Ext.trans HX.out hw32)
            clear hw32 HX hne
            refine wpList_runW rfl (.bool true) (by simp [go_sem, hq]) ?_
            simp only [Act.put, List.setIfInBounds_toArray, List.set_cons_zero, List.set_cons_succ]
            refine wpList_run rfl (.bool true) (by simp [go_sem]) ?_
            simp only [Act.put, List.setIfInBounds_toArray, List.set_cons_zero, List.set_cons_succ]
            refine wpList_run rfl (.bool true) (by simp [go_sem]) ?_
            simp only [Act.put, List.setIfInBounds_toArray, List.set_cons_zero, List.set_cons_succ]
            refine wpList_go ?_
            have HX := HX32
            clear HX32
            have hne := kept_ne w32
            refine wpAny_done (by decide +kernel) ?_
            go_wp2
            go_ret
            exact ⟨rfl, Ext.trans HE.out HX.out⟩
  · have i64 : ¬ (64 : Int) < (l0 : Int) := by omega
    obtain ⟨kf, hkf⟩ : ∃ kf, kf = b0 := ⟨_, rfl⟩
    have hRF : Hid (∀ j, (if j < l0 then kf j else 0#8) = RF j) := fun j => by
      rw [hRF0, hkf]
      unfold readyF
      rw [if_neg h64]
    have HO0 := HO'
    have HE0 := HEA
    have HK0 := hideit (hK.out.ext HEA.out)
    rw [← hkf] at HK0
    have hkb := hbr1
    clear hkf hRF0 HO' HEA hbr1 hbr
    go_upto_region 6 with (fail)
    go_wp2
    go_loopw [8] (fun iv wr => ∃ i : Nat, i ≤ l0 ∧ iv = .int .i64 (i : Int) ∧ OwnB w.heap.size 5 (.slice (some ⟨br, 0, none⟩) 64 64) 64 (yv fun j => if j < i then kf j else 0#8) wr ∧ BV (.slice o0 l0 c0) l0 kf wr ∧ Ext w wr) (fun iv _ => l0 - (intOf iv).toNat)
    case atStart => exact ⟨0, by omega, rfl, HO0.out.congr fun j _ => by simp [yv], HK0.out, HE0.out⟩
    case round =>
      clear HO0 HK0 HE0
      obtain ⟨i, hi, rfl, hO, hKK, hE⟩ := hrel
      have HO1 := hideit hO
      have HK1 := hideit hKK
      have HE1 := hideit hE
      clear hO hKK hE
      by_cases hlt : i < l0
      · have i0 : (0 : Int) ≤ (i : Int) := by omega
        have i1 : (i : Int) < (l0 : Int) := by omega
        have i2 : (i : Int) < 64 := by omega
        have hi64 : i < 64 := by omega
        obtain ⟨q, cq, hv, _, _, _, hR⟩ := HO1.out.lies (by omega)
        injection hv with q1 q2 q3
        injection q1 with q1
        injection q1 with q1
        subst q1
        have ec := hR.1 i hi64
        have gc := hR.2.1 i hi64
        simp only [yv, if_neg (Nat.lt_irrefl i)] at ec
        clear hR q2 q3
        obtain ⟨ka, rfl, hcell⟩ : ∃ a, o0 = some a ∧ wr.cell? (a.add i) = some (yv kf i) := by
          rcases HK1.out with ⟨h, h0⟩ | ⟨a, cap', h, _, h3⟩
          · omega
          · injection h with e1 e2 e3
            exact ⟨a, e1, h3.1 i hlt⟩
        simp only [yv] at hcell
        go_wp2
        refine ⟨⟨i + 1, by omega, by go_num, ?_, ?_, ?_⟩, by simp [intOf]; omega⟩
        · exact (HO1.out.set (b := br) rfl i hi64 (yv kf i)).congr fun j _ => by
            simp only [yv]
            by_cases e : j = i
            · subst e
              simp only [if_true]
              rw [if_pos (by omega)]
            · simp only [if_neg e]
              by_cases h : j < i
              · rw [if_pos h, if_pos (by omega)]
              · rw [if_neg h, if_neg (by omega)]
        · exact HK1.out.setCell _ _ (fun a n c he => hkb.out a n c he)
        · exact HE1.out.setCell hbr0 _
      · have hil : i = l0 := by omega
        subst hil
        have j1 : ¬ ((i : Int) < (i : Int)) := by omega
        have HO := hideit (HO1.out.congr (g' := yv RF) fun j hj => by simp only [yv]; rw [hRF.out j])
        have HE := HE1
        clear HO1 HK1 HE1
        go_upto_region 10 with (fail)
        apply cut2 (fun bi bo X => bi ≠ bo ∧ wr.heap.size ≤ bi ∧ wr.heap.size ≤ bo ∧ OwnB wr.heap.size 5 (.slice (some ⟨bi, 0, none⟩) 64 64) 64 (yv fun _ => 0#8) X ∧ OwnB wr.heap.size 5 (.slice (some ⟨bo, 0, none⟩) 64 64) 64 (yv fun _ => 0#8) X ∧ Ext wr X)
        · intro key
          refine wp_region_any (by kernel_rfl) ?_
          refine wpAny_open (f := 3) [0, 1] (by decide +kernel) (by decide) ?_
          intro i hi
          rcases (by simpa using hi : i = 0 ∨ i = 1) with rfl | rfl
          · refine GenY.wpOp (W := wr.drew) (s := spO wr.heap.size) rfl (Ext.refl _) ⟨rfl, fun X hX => made_gen' wr X hX _ rfl rfl⟩ fun b x1 hb1 hb2 hS hx1 => ?_
            simp only [List.getElem_toArray, List.getElem_cons_zero, Act.put, List.setIfInBounds_toArray, List.set_cons_zero, List.set_cons_succ, spO]
            refine wpAny_pures (by kernel_rfl) (fun _ _ _ _ _ h => h) [2] [_] _ _ 2 rfl (by decide +kernel) ?_
            simp only [List.getElem_toArray, List.getElem_cons_zero, List.getElem_cons_succ]
            refine wpPure_one (.slice (some ⟨b, 0, none⟩) 64 64) rfl (fun X => by simp [go_sem]) ?_
            simp only [Act.put, List.setIfInBounds_toArray, List.set_cons_zero, List.set_cons_succ]
            refine wpPure_nil ?_
            refine wpAny_row _ 2 0 [1, 3] [_, _] (by decide +kernel) (by decide +kernel) (by decide +kernel) (by decide +kernel) (by decide +kernel) (by decide) rfl (by decide +kernel) (by decide +kernel) (by decide +kernel) (by decide +kernel) ?_
            intro x2 hx2
            simp only [List.getElem_toArray, List.getElem_cons_zero, List.getElem_cons_succ]
            refine wpList_made x2 Tryd.underlying22 (by kernel_rfl) rfl (.const (.int .i64 64)) (.const (.int .i64 64)) rfl 64 rfl rfl (by omega) ?_
            intro x3 hO3 hE3
            simp only [Act.put, List.setIfInBounds_toArray, List.set_cons_zero, List.set_cons_succ]
            refine wpList_run rfl (.slice (some ⟨x2.heap.size, 0, none⟩) 64 64) (by simp [go_sem]) ?_
            refine wpList_go ?_
            refine wpAny_done (by decide +kernel) ?_
            have hs1 : wr.heap.size ≤ x1.heap.size := Below.size (Ext.trans (Below.refl _ _).drew hx1)
            have hs2 : x1.heap.size ≤ x2.heap.size := Below.size hx2
            have hb0 : wr.heap.size ≤ b := hb1
            generalize x2.heap.size = bb at *
            exact key b bb x3 ⟨by omega, hb0, by omega, (OwnB.ext hS hx2).ext hE3, hO3.down (by omega), Ext.trans (Ext.trans (Ext.trans (Below.refl _ _).drew hx1) hx2) hE3⟩
          · refine GenY.wpOp (W := wr.drew) (s := spO wr.heap.size) rfl (Ext.refl _) ⟨rfl, fun X hX => made_gen' wr X hX _ rfl rfl⟩ fun b x1 hb1 hb2 hS hx1 => ?_
            simp only [List.getElem_toArray, List.getElem_cons_zero, List.getElem_cons_succ, Act.put, List.setIfInBounds_toArray, List.set_cons_zero, List.set_cons_succ, spO]
            refine wpAny_row _ 3 0 [0, 2, 3] [_, _, _] (by decide +kernel) (by decide +kernel) (by decide +kernel) (by decide +kernel) (by decide +kernel) (by decide) rfl (by decide +kernel) (by decide +kernel) (by decide +kernel) (by decide +kernel) ?_
            intro x2 hx2
            simp only [List.getElem_toArray, List.getElem_cons_zero, List.getElem_cons_succ]
            refine wpList_made x2 Tryd.underlying22 (by kernel_rfl) rfl (.const (.int .i64 64)) (.const (.int .i64 64)) rfl 64 rfl rfl (by omega) ?_
            intro x3 hO3 hE3
            simp only [Act.put, List.setIfInBounds_toArray, List.set_cons_zero, List.set_cons_succ]
            refine wpList_run rfl (.slice (some ⟨x2.heap.size, 0, none⟩) 64 64) (by simp [go_sem]) ?_
            simp only [Act.put, List.setIfInBounds_toArray, List.set_cons_zero, List.set_cons_succ]
            refine wpList_run rfl (.slice (some ⟨b, 0, none⟩) 64 64) (by simp [go_sem]) ?_
            refine wpList_go ?_
            refine wpAny_done (by decide +kernel) ?_
            have hs1 : wr.heap.size ≤ x1.heap.size := Below.size (Ext.trans (Below.refl _ _).drew hx1)
            have hs2 : x1.heap.size ≤ x2.heap.size := Below.size hx2
            have hb0 : wr.heap.size ≤ b := hb1
            generalize x2.heap.size = bb at *
            exact key bb b x3 ⟨by omega, by omega, hb0, hO3.down (by omega), (OwnB.ext hS hx2).ext hE3, Ext.trans (Ext.trans (Ext.trans (Below.refl _ _).drew hx1) hx2) hE3⟩
        rintro bi bo X1 ⟨hbb, hbi, hbo, hOi, hOo, hE1⟩
        have HOi := hideit hOi
        have HOo := hideit hOo
        have HOr := hideit (HO.out.ext hE1)
        have HE1 := hideit (Ext.trans HE.out hE1)
        have hbr : br < wr.heap.size := (HO.out.lt br rfl).2
        have hwr : w.heap.size ≤ wr.heap.size := Below.size HE.out
        clear hOi hOo hE1 HO HE
        have HOi2 := hideit (HOi.out.down hwr)
        have HOo2 := hideit (HOo.out.down hwr)
        have hb1 : br ≠ bi := by omega
        have hb2 : br ≠ bo := by omega
        have hb3 : w.heap.size ≤ bi := by omega
        have hb4 : w.heap.size ≤ bo := by omega
        clear HOi HOo hbi hbo hbr hwr
        go_wp2
        go_loopw [11] (fun iv wr => ∃ i : Nat, i ≤ 64 ∧ iv = .int .i64 (i : Int) ∧ OwnB w.heap.size 5 (.slice (some ⟨bi, 0, none⟩) 64 64) 64 (yv fun j => if j < i then MI j else 0#8) wr ∧ OwnB w.heap.size 5 (.slice (some ⟨bo, 0, none⟩) 64 64) 64 (yv fun j => if j < i then MO j else 0#8) wr ∧ OwnB w.heap.size 5 (.slice (some ⟨br, 0, none⟩) 64 64) 64 (yv RF) wr ∧ Ext w wr) (fun iv _ => 64 - (intOf iv).toNat)
        case atStart => exact ⟨0, by omega, rfl, HOi2.out.congr fun j _ => by simp [yv], HOo2.out.congr fun j _ => by simp [yv], HOr.out, HE1.out⟩
        case round =>
          clear HOi2 HOo2 HOr HE1
          obtain ⟨i, hi, rfl, hOi, hOo, hOr, hE⟩ := hrel
          have HOi := hideit hOi
          have HOo := hideit hOo
          have HOr := hideit hOr
          have HE := hideit hE
          clear hOi hOo hOr hE
          by_cases hlt : i < 64
          · have i0 : (0 : Int) ≤ (i : Int) := by omega
            have i1 : (i : Int) < 64 := by omega
            have hne := kept_ne wr.drew
            have e1 : ∀ k : Kept (Ext wr.drew), k.w.cell? ⟨br, i, none⟩ = some (.int .u8 ((RF i).toNat : Int)) := fun k => by
              obtain ⟨q, cq, hv, _, _, _, hR⟩ := HOr.out.lies (by omega)
              injection hv with q1 q2 q3
              injection q1 with q1
              injection q1 with q1
              subst q1
              exact hR.kept i hlt k
            have hx1 : bits .xor .u8 ((RF i).toNat : Int) 54 = ((MI i).toNat : Int) := (xor8' (RF i) 54#8).trans (by rw [hMI.out]; rfl)
            have hx2 : bits .xor .u8 ((RF i).toNat : Int) 92 = ((MO i).toNat : Int) := (xor8' (RF i) 92#8).trans (by rw [hMO.out]; rfl)
            go_upto_region 14 with (fail)
            refine wp_region_flo (fun _ => True) (fun _ _ => trivial) [0, 1, 4, 5, 6, 7, 8, 9, 10, 11, 12] [2, 3, 13] [14, 15, 16, 17] [_, _, _, _, _, _, _, _, _, _, _] (by kernel_rfl) (by kernel_rfl) (by decide) rfl (by decide +kernel) (by decide +kernel) (by decide +kernel) (by decide +kernel) (by decide +kernel) (by decide +kernel) (by decide +kernel) (by decide +kernel) (by decide +kernel) ?_
            simp only [List.getElem_toArray, List.getElem_cons_zero, List.getElem_cons_succ]
            refine wpStrong_run 11 rfl ?_
            simp only [List.take_succ_cons, List.take_zero, List.drop_succ_cons, List.drop_zero]
            repeat (go_big_quiet_step (fail))
            refine wpQuiet_nil ?_
            refine wpStrong_nil ?_
            refine wpF_one _ (.slice (some ⟨bo, 0, none⟩) 64 64) rfl rfl (fun X _ => by simp [go_sem]) ?_
            simp only [List.getElem_toArray, List.getElem_cons_zero, List.getElem_cons_succ, Act.put, List.setIfInBounds_toArray, List.set_cons_zero, List.set_cons_succ]
            refine wpF_one _ (.int .i64 (i : Int)) rfl rfl (fun X _ => by simp [go_sem]) ?_
            simp only [List.getElem_toArray, List.getElem_cons_zero, List.getElem_cons_succ, Act.put, List.setIfInBounds_toArray, List.set_cons_zero, List.set_cons_succ]
            refine wpF_one _ (.int .u8 ((MO i).toNat : Int)) rfl rfl (fun X _ => by simp [go_sem, hx2]) ?_
            simp only [List.getElem_toArray, List.getElem_cons_zero, List.getElem_cons_succ, Act.put, List.setIfInBounds_toArray, List.set_cons_zero, List.set_cons_succ]
            refine wpF_nil ?_
            intro X hX
            have hwX : Ext wr X := Ext.trans (Below.refl _ _).drew hX
            have HOi' := hideit (HOi.out.ext hwX)
            have HOo' := hideit (HOo.out.ext hwX)
            have HOr' := hideit (HOr.out.ext hwX)
            have HE' := hideit (Ext.trans HE.out hwX)
            clear hwX hX HOi HOo HOr HE hne e1
            obtain ⟨ei, gi⟩ : X.cell? ⟨bi, i, none⟩ = some (.int .u8 0) ∧ X.frozen? ⟨bi, i, none⟩ = false := by
              obtain ⟨q, cq, hv, _, _, _, hR⟩ := HOi'.out.lies (by omega)
              injection hv with q1 q2 q3
              injection q1 with q1
              injection q1 with q1
              subst q1
              refine ⟨?_, hR.2.1 i hlt⟩
              have := hR.1 i hlt
              simpa [yv] using this
            refine wpL_val _ (.pointer (some ⟨bi, i, none⟩)) rfl rfl (by simp [go_sem, i0, i1]) trivial ?_
            simp only [List.getElem_toArray, List.getElem_cons_zero, List.getElem_cons_succ, Act.put, List.setIfInBounds_toArray, List.set_cons_zero, List.set_cons_succ]
            refine wpL_skip _ (X.setCell ⟨bi, i, none⟩ (.int .u8 ((MI i).toNat : Int))) rfl rfl (by simp [go_sem, ei, gi]) trivial ?_
            simp only [List.getElem_toArray, List.getElem_cons_zero, List.getElem_cons_succ, Act.put]
            have HOi2 : OwnB w.heap.size 5 (.slice (some ⟨bi, 0, none⟩) 64 64) 64 (yv fun j => if j < i + 1 then MI j else 0#8) (X.setCell ⟨bi, i, none⟩ (.int .u8 ((MI i).toNat : Int))) := (HOi'.out.set (b := bi) rfl i hlt (yv MI i)).congr fun j _ => by
              simp only [yv]
              by_cases e : j = i
              · subst e
                simp only [if_true]
                rw [if_pos (by omega)]
              · simp only [if_neg e]
                by_cases h : j < i
                · rw [if_pos h, if_pos (by omega)]
                · rw [if_neg h, if_neg (by omega)]
            have HOo2 := hideit (HOo'.out.other ⟨bi, i, none⟩ (by simp [Value.ownBlock]; omega) (.int .u8 ((MI i).toNat : Int)))
            have HOr2 := hideit (HOr'.out.other ⟨bi, i, none⟩ (by simp [Value.ownBlock]; omega) (.int .u8 ((MI i).toNat : Int)))
            have HE2 := hideit (HE'.out.setCell (p := ⟨bi, i, none⟩) hb3 (.int .u8 ((MI i).toNat : Int)))
            replace HOi2 := hideit HOi2
            generalize X.setCell ⟨bi, i, none⟩ (.int .u8 ((MI i).toNat : Int)) = Y at *
            clear ei gi HOi' HOo' HOr' HE'
            obtain ⟨eo, go⟩ : Y.cell? ⟨bo, i, none⟩ = some (.int .u8 0) ∧ Y.frozen? ⟨bo, i, none⟩ = false := by
              obtain ⟨q, cq, hv, _, _, _, hR⟩ := HOo2.out.lies (by omega)
              injection hv with q1 q2 q3
              injection q1 with q1
              injection q1 with q1
              subst q1
              refine ⟨?_, hR.2.1 i hlt⟩
              have := hR.1 i hlt
              simpa [yv] using this
            refine wpL_val _ (.pointer (some ⟨bo, i, none⟩)) rfl rfl (by simp [go_sem, i0, i1]) trivial ?_
            simp only [List.getElem_toArray, List.getElem_cons_zero, List.getElem_cons_succ, Act.put, List.setIfInBounds_toArray, List.set_cons_zero, List.set_cons_succ]
            refine wpL_skip _ (Y.setCell ⟨bo, i, none⟩ (.int .u8 ((MO i).toNat : Int))) rfl rfl (by simp [go_sem, eo, go]) trivial ?_
            refine wpL_nil ?_
            simp only [Act.put]
            go_wp2
            refine ⟨⟨i + 1, by omega, by go_num, ?_, ?_, ?_, ?_⟩, by simp [intOf]; omega⟩
            · exact HOi2.out.other ⟨bo, i, none⟩ (by simp [Value.ownBlock]; omega) _
            · exact (HOo2.out.set (b := bo) rfl i hlt (yv MO i)).congr fun j _ => by
                simp only [yv]
                by_cases e : j = i
                · subst e
                  simp only [if_true]
                  rw [if_pos (by omega)]
                · simp only [if_neg e]
                  by_cases h : j < i
                  · rw [if_pos h, if_pos (by omega)]
                  · rw [if_neg h, if_neg (by omega)]
            · exact HOr2.out.other ⟨bo, i, none⟩ (by simp [Value.ownBlock]; omega) _
            · exact HE2.out.setCell (p := ⟨bo, i, none⟩) hb4 _
          · obtain rfl : i = 64 := by omega
            have HOi := hideit (HOi.out.congr (g' := yv MI) fun j hj => by simp only [yv]; rw [if_pos hj])
            have HOo := hideit (HOo.out.congr (g' := yv MO) fun j hj => by simp only [yv]; rw [if_pos hj])
            rename_i HOi0 HOo0
            clear HOi0 HOo0
            go_upto_region 15 with (fail)
            refine wp_region_lit ?_
            refine wpList_run rfl (.slice (some ⟨bi, 0, none⟩) 64 64) (by simp [go_sem]) ?_
            simp only [Act.put, List.setIfInBounds_toArray, List.set_cons_zero, List.set_cons_succ]
            refine wpList_run rfl (.slice o1 l1 c1) (by simp [go_sem]) ?_
            simp only [Act.put, List.setIfInBounds_toArray, List.set_cons_zero, List.set_cons_succ]
            refine wpList_growV (v := .slice (some ⟨bi, 0, none⟩) 64 64) (n := 64) (base := w.heap.size) (g := yv MI) elem22 rfl (.tmp 57) (.tmp 58) rfl rfl HOi.out _ l1 b1 (yv (catF MI 64 b1)) rfl (hM.out.ext HE.out) (fun j hj => by simp only [yv]; unfold catF; rw [if_pos hj]) (fun j hj => by simp only [yv]; unfold catF; rw [if_neg (by omega), Nat.add_sub_cancel_left]) (by omega) (Below.size HE.out) ?_
            intro v5 x5 hO5 hg5
            have HE5 := hideit (grown_ext HE.out hg5 (fun k hk => (HOi.out.lt k hk).1))
            have HOo5 := hideit (HOo.out.kept hg5 (.inr (by simp [Value.ownBlock]; omega)))
            have HOr5 := hideit (HOr.out.kept hg5 (.inr (by simp [Value.ownBlock]; omega)))
            have HV5 := hideit (OwnB.bv hO5)
            obtain ⟨o5, c5, rfl⟩ := HV5.out.form
            have hs5 := sumV _ (64 + l1) _ x5 HV5.out (hC.out.ext HE5.out) (by omega)
            rw [← hDD.out] at hs5
            replace hs5 := hideit hs5
            clear hO5 hg5 HV5 HOi HOo HOr HE
            simp only [Act.put, List.setIfInBounds_toArray, List.set_cons_zero, List.set_cons_succ]
            refine wpList_call rfl (by simp [go_sem]) (hs5.out.mono ?_)
            rintro e x6 ⟨rfl, hw6⟩
            refine ⟨_, rfl, ?_⟩
            simp only [Act.put, List.setIfInBounds_toArray, List.set_cons_zero, List.set_cons_succ]
            have HN := hideit (RowAt.new x6 32 (yv fun _ => 0#8) 23)
            have hE7 : Ext x6 (x6.alloc (.cells (row 32 (yv fun _ => 0#8)).toArray 23)) := (Below.refl _ _).alloc (Nat.le_refl _) _
            refine wpList_to rfl (.pointer (some ⟨x6.heap.size, 0, none⟩)) (x6.alloc (.cells (row 32 (yv fun _ => 0#8)).toArray 23)) (by simp [go_sem, hz2]) ?_
            simp only [Act.put, List.setIfInBounds_toArray, List.set_cons_zero, List.set_cons_succ]
            refine wpList_store_mid rfl 23 (.tmp 12) (.tmp 60) rfl _ 0 (row 32 (yv D)).toArray rfl rfl (by rw [row_size]; exact HN.out.there) (by rw [row_size]; exact info24) (row_one fun _ _ => rfl) ?_
            have hE8 : Ext x5 ((x6.alloc (.cells (row 32 (yv fun _ => 0#8)).toArray 23)).setCells x6.heap.size 0 (row 32 (yv D))) := Ext.trans hw6 (below_setCells x6.heap.size (Nat.le_refl _) _ _ _ hE7)
            have HD8 := hideit (HN.out.cells (g' := yv D))
            have HOo8 := hideit (HOo5.out.ext hE8)
            have HOr8 := hideit (HOr5.out.ext hE8)
            have HE8 := hideit (Ext.trans HE5.out hE8)
            have hbd : Hid (bo < x6.heap.size) := Nat.lt_of_lt_of_le (HOo5.out.lt bo rfl).2 (Below.size hw6)
            generalize (x6.alloc (.cells (row 32 (yv fun _ => 0#8)).toArray 23)).setCells x6.heap.size 0 (row 32 (yv D)) = x8 at *
            generalize x6.heap.size = bD at *
            clear HN hE7 hE8 hw6 hs5 HOo5 HOr5 HE5
            simp only [Act.put]
            go_upto_region 16 with (fail)
            refine wp_region_lit ?_
            refine wpList_run rfl (.slice (some ⟨bo, 0, none⟩) 64 64) (by simp [go_sem]) ?_
            simp only [Act.put, List.setIfInBounds_toArray, List.set_cons_zero, List.set_cons_succ]
            refine wpList_run rfl (.slice (some ⟨bD, 0, none⟩) 32 32) (by simp [go_sem, c23]) ?_
            simp only [Act.put, List.setIfInBounds_toArray, List.set_cons_zero, List.set_cons_succ]
            refine wpList_growV (v := .slice (some ⟨bo, 0, none⟩) 64 64) (n := 64) (base := w.heap.size) (g := yv MO) elem22 rfl (.tmp 61) (.tmp 62) rfl rfl HOo8.out _ 32 D (yv (catF MO 64 D)) rfl (.inr ⟨_, 32, rfl, Nat.le_refl _, HD8.out.lie 32 (Nat.le_refl _)⟩) (fun j hj => by simp only [yv]; unfold catF; rw [if_pos hj]) (fun j hj => by simp only [yv]; unfold catF; rw [if_neg (by omega), Nat.add_sub_cancel_left]) (by omega) (Below.size HE8.out) ?_
            intro v9 x9 hO9 hg9
            have HE9 := hideit (grown_ext HE8.out hg9 (fun k hk => (HOo8.out.lt k hk).1))
            have HOr9 := hideit (HOr8.out.kept hg9 (.inr (by simp [Value.ownBlock]; omega)))
            have HV9 := hideit (OwnB.bv hO9)
            obtain ⟨o9, c9, rfl⟩ := HV9.out.form
            have hs9 := sumV _ (64 + 32) _ x9 HV9.out (hC.out.ext HE9.out) (by omega)
            rw [hR0.out] at hs9
            replace hs9 := hideit hs9
            clear hO9 hg9 HV9 HOo8 HOr8 HE8 HD8 hbd
            simp only [Act.put, List.setIfInBounds_toArray, List.set_cons_zero, List.set_cons_succ]
            refine wpList_call rfl (by simp [go_sem]) (hs9.out.mono ?_)
            rintro e x10 ⟨rfl, hw10⟩
            refine ⟨_, rfl, ?_⟩
            simp only [Act.put, List.setIfInBounds_toArray, List.set_cons_zero, List.set_cons_succ]
            have HN := hideit (RowAt.new x10 32 (yv fun _ => 0#8) 23)
            have hE11 : Ext x10 (x10.alloc (.cells (row 32 (yv fun _ => 0#8)).toArray 23)) := (Below.refl _ _).alloc (Nat.le_refl _) _
            refine wpList_to rfl (.pointer (some ⟨x10.heap.size, 0, none⟩)) (x10.alloc (.cells (row 32 (yv fun _ => 0#8)).toArray 23)) (by simp [go_sem, hz2]) ?_
            simp only [Act.put, List.setIfInBounds_toArray, List.set_cons_zero, List.set_cons_succ]
            refine wpList_store_mid rfl 23 (.tmp 13) (.tmp 64) rfl _ 0 (row 32 (yv R)).toArray rfl rfl (by rw [row_size]; exact HN.out.there) (by rw [row_size]; exact info24) (row_one fun _ _ => rfl) ?_
            have hE12 : Ext x9 ((x10.alloc (.cells (row 32 (yv fun _ => 0#8)).toArray 23)).setCells x10.heap.size 0 (row 32 (yv R))) := Ext.trans hw10 (below_setCells x10.heap.size (Nat.le_refl _) _ _ _ hE11)
            have HW := hideit (HN.out.cells (g' := yv R))
            have HRB := hideit (OwnB.bv (HOr9.out.ext hE12))
            have HE := hideit (Ext.trans HE9.out hE12)
            generalize (x10.alloc (.cells (row 32 (yv fun _ => 0#8)).toArray 23)).setCells x10.heap.size 0 (row 32 (yv R)) = x12 at *
            generalize x10.heap.size = bW at *
            clear HN hE11 hE12 hw10 hs9 HOr9 HE9
            simp only [Act.put]
            go_upto_region 17 with (fail)
            refine wp_region_any (by kernel_rfl) ?_
            refine wpAny_row _ 18 16 [0, 1] [_, _] (by decide +kernel) (by decide +kernel) (by decide +kernel) (by decide +kernel) (by decide +kernel) (by decide) rfl (by decide +kernel) (by decide +kernel) (by decide +kernel) (by decide +kernel) ?_
            intro y1 hy1
            simp only [List.getElem_toArray, List.getElem_cons_zero, List.getElem_cons_succ]
            have HL1 := hideit (Ext.trans (Below.refl _ _).drew hy1)
            refine wpList_call rfl (by simp [go_sem]) ((lives_any y1 (hC.out.ext (Ext.trans HE.out HL1.out))).mono ?_)
            rintro e y2 ⟨rfl, hw2⟩
            refine ⟨_, rfl, ?_⟩
            simp only [Act.put, List.setIfInBounds_toArray, List.set_cons_zero, List.set_cons_succ]
            have HX := hideit (Ext.trans HL1.out hw2)
            clear hy1 hw2 HL1
            refine wpList_run rfl (.bool true) (by simp [go_sem]) ?_
            simp only [Act.put, List.setIfInBounds_toArray, List.set_cons_zero, List.set_cons_succ]
            refine wpList_go ?_
            have hne := kept_ne y2
            refine wpAny_pures (by kernel_rfl) (fun _ _ _ _ _ h => h) [2, 3] [_, _] _ _ 14 rfl (by decide +kernel) ?_
            simp only [List.getElem_toArray, List.getElem_cons_zero, List.getElem_cons_succ]
            refine wpPure_one (.slice o0 i c0) rfl (fun X => by simp [go_sem]) ?_
            simp only [Act.put, List.setIfInBounds_toArray, List.set_cons_zero, List.set_cons_succ]
            refine wpPure_one (.slice o1 l1 c1) rfl (fun X => by simp [go_sem]) ?_
            simp only [Act.put, List.setIfInBounds_toArray, List.set_cons_zero, List.set_cons_succ]
            refine wpPure_nil ?_
            refine wpAny_seg _ 14 8 (spT l1 b1 (.slice o1 l1 c1)) (fun _ => .agg (row 32 (yv R)).toArray) (fun _ _ _ _ hh hk => Parts.ext hh hk) [6] [4] [5] [7, 8, 9] [_] [_, _, _] (by decide +kernel) (by decide +kernel) (by decide +kernel) (by decide +kernel) (by decide +kernel) (by decide) rfl rfl (by decide +kernel) (by decide +kernel) (by decide +kernel) (by decide +kernel) (by decide +kernel) (by decide +kernel) (by decide +kernel) (by decide +kernel) (by decide +kernel) (by decide +kernel) (by decide +kernel) ?_
            simp only [List.getElem_toArray, List.getElem_cons_zero, List.getElem_cons_succ]
            refine wpStrong_run 1 rfl ?_
            simp only [List.take_succ_cons, List.take_zero, List.drop_succ_cons, List.drop_zero]
            go_big_quiet_want
            refine loadQ 23 (.tmp 13) bW 0 32 (yv R) rfl rfl (fun w' hw' => (HW.out.carry (Ext.trans HX.out hw')).range) Tryd.underlying23 rfl info24 ?_
            simp only [Act.put, List.setIfInBounds_toArray, List.set_cons_zero, List.set_cons_succ]
            go_big_quiet_on
            refine wpQuiet_nil ?_
            refine wpStrong_nil ?_
            refine wpN_one _ rfl (GenY.make rfl (fun X hX => ⟨.cells #[.slice o1 l1 c1] 22, by simp [go_sem, spT], partsOne X _ l1 b1 ((hM.out.ext (Ext.trans HE.out (Ext.trans HX.out hX))).ext ((Below.refl _ _).alloc (Nat.le_refl _) _))⟩)) ?_
            intro b hb1 _
            simp only [List.getElem_toArray, List.getElem_cons_zero, List.getElem_cons_succ, Act.put, List.setIfInBounds_toArray, List.set_cons_zero, List.set_cons_succ]
            refine wpN_nil ?_
            refine wpT_one _ rfl (StrongT.call (f := 10) (args := #[.slice o0 i c0, .slice (some ⟨b, 0, none⟩) 1 1]) rfl (fun X => by simp [go_sem, spT]) (fun X hX hH => ?_)) ?_
            · have ht := Tag_any _ _ i 1 b0 _ _ _ X (hK.out.ext (Ext.trans HE.out (Ext.trans HX.out hX))) (hH (b, 4) (by simp)).1 (hC.out.ext (Ext.trans HE.out (Ext.trans HX.out hX))) (by omega) (by omega) (by show 0 + l1 < _; omega)
              rw [hR1.out] at ht
              exact ht
            simp only [List.getElem_toArray, List.getElem_cons_zero, List.getElem_cons_succ, Act.put, List.setIfInBounds_toArray, List.set_cons_zero, List.set_cons_succ]
            refine wpT_nil ?_
            intro w31 hw31 _
            have HX31 := hideit (Ext.trans HX.out hw31)
            clear hw31 HX hne
            refine wpList_runW rfl (.bool true) (by simp [go_sem, hq]) ?_
            simp only [Act.put, List.setIfInBounds_toArray, List.set_cons_zero, List.set_cons_succ]
            refine wpList_run rfl (.bool true) (by simp [go_sem]) ?_
            simp only [Act.put, List.setIfInBounds_toArray, List.set_cons_zero, List.set_cons_succ]
            refine wpList_run rfl (.bool true) (by simp [go_sem]) ?_
            simp only [Act.put, List.setIfInBounds_toArray, List.set_cons_zero, List.set_cons_succ]
            refine wpList_go ?_
            have HX := HX31
            clear HX31
            have hne := kept_ne w31
            refine wpAny_pures (by kernel_rfl) (fun _ _ _ _ _ h => h) [10, 11] [_, _] _ _ 6 rfl (by decide +kernel) ?_
            simp only [List.getElem_toArray, List.getElem_cons_zero, List.getElem_cons_succ]
            refine wpPure_one (.slice (some ⟨br, 0, none⟩) 64 64) rfl (fun X => by simp [go_sem]) ?_
            simp only [Act.put, List.setIfInBounds_toArray, List.set_cons_zero, List.set_cons_succ]
            refine wpPure_one (.slice o1 l1 c1) rfl (fun X => by simp [go_sem]) ?_
            simp only [Act.put, List.setIfInBounds_toArray, List.set_cons_zero, List.set_cons_succ]
            refine wpPure_nil ?_
            refine wpAny_seg _ 6 0 (spT l1 b1 (.slice o1 l1 c1)) (fun _ => .agg (row 32 (yv R)).toArray) (fun _ _ _ _ hh hk => Parts.ext hh hk) [14] [12] [13] [15, 16, 17] [_] [_, _, _] (by decide +kernel) (by decide +kernel) (by decide +kernel) (by decide +kernel) (by decide +kernel) (by decide) rfl rfl (by decide +kernel) (by decide +kernel) (by decide +kernel) (by decide +kernel) (by decide +kernel) (by decide +kernel) (by decide +kernel) (by decide +kernel) (by decide +kernel) (by decide +kernel) (by decide +kernel) ?_
            simp only [List.getElem_toArray, List.getElem_cons_zero, List.getElem_cons_succ]
            refine wpStrong_run 1 rfl ?_
            simp only [List.take_succ_cons, List.take_zero, List.drop_succ_cons, List.drop_zero]
            go_big_quiet_want
            refine loadQ 23 (.tmp 13) bW 0 32 (yv R) rfl rfl (fun w' hw' => (HW.out.carry (Ext.trans HX.out hw')).range) Tryd.underlying23 rfl info24 ?_
            simp only [Act.put, List.setIfInBounds_toArray, List.set_cons_zero, List.set_cons_succ]
            go_big_quiet_on
            refine wpQuiet_nil ?_
            refine wpStrong_nil ?_
            refine wpN_one _ rfl (GenY.make rfl (fun X hX => ⟨.cells #[.slice o1 l1 c1] 22, by simp [go_sem, spT], partsOne X _ l1 b1 ((hM.out.ext (Ext.trans HE.out (Ext.trans HX.out hX))).ext ((Below.refl _ _).alloc (Nat.le_refl _) _))⟩)) ?_
            intro b hb1 _
            simp only [List.getElem_toArray, List.getElem_cons_zero, List.getElem_cons_succ, Act.put, List.setIfInBounds_toArray, List.set_cons_zero, List.set_cons_succ]
            refine wpN_nil ?_
            refine wpT_one _ rfl (StrongT.call (f := 10) (args := #[.slice (some ⟨br, 0, none⟩) 64 64, .slice (some ⟨b, 0, none⟩) 1 1]) rfl (fun X => by simp [go_sem, spT]) (fun X hX hH => ?_)) ?_
            · have ht := Tag_any _ _ 64 1 RF _ _ _ X (HRB.out.ext (Ext.trans HX.out hX)) (hH (b, 12) (by simp)).1 (hC.out.ext (Ext.trans HE.out (Ext.trans HX.out hX))) (by omega) (by omega) (by show 0 + l1 < _; omega)
              rw [hR2.out] at ht
              exact ht
            simp only [List.getElem_toArray, List.getElem_cons_zero, List.getElem_cons_succ, Act.put, List.setIfInBounds_toArray, List.set_cons_zero, List.set_cons_succ]
            refine wpT_nil ?_
            intro w32 hw32 _
            have HX32 := hideit (Ext.trans HX.out hw32)
            clear hw32 HX hne
            refine wpList_runW rfl (.bool true) (by simp [go_sem, hq]) ?_
            simp only [Act.put, List.setIfInBounds_toArray, List.set_cons_zero, List.set_cons_succ]
            refine wpList_run rfl (.bool true) (by simp [go_sem]) ?_
            simp only [Act.put, List.setIfInBounds_toArray, List.set_cons_zero, List.set_cons_succ]
            refine wpList_run rfl (.bool true) (by simp [go_sem]) ?_
            simp only [Act.put, List.setIfInBounds_toArray, List.set_cons_zero, List.set_cons_succ]
            refine wpList_go ?_
            have HX := HX32
            clear HX32
            have hne := kept_ne w32
            refine wpAny_done (by decide +kernel) ?_
            go_wp2
            go_ret
            exact ⟨rfl, Ext.trans HE.out HX.out⟩

theorem contract (H : Type) (enc : TypeId × Value → H) (W : World) (base : Nat) (args : Array Value) (ds gs : List (DataW H)) (before : List MemPlace)
    (hval0 : ∀ (j : Nat) t v, Tryd.f7.params[j]? = some t → args[j]? = some v → Value.okWide Tryd.prog W .any base t v)
    (hW : DataW.Whole enc Tryd.prog Tryd.f7.params.toList Rows.hmacReadySpec.vars false W args.toList ds gs before) (hL : laidMetH Tryd.prog Rows.hmacReadyRow.laid W) (hsz0 : (DataW.weightsEach Tryd.prog (Tryd.f7.params.toList ++ []) (ds ++ gs)).all (· ≤ reachBytes) = true) :
    Calls Tryd.prog 7 args W fun e W' => ∃ v, e = .returned v ∧ Rows.hmacReadySpec.post enc Tryd.prog Tryd.f7 false true false false W args v W' := by
  have hval := hval0
  have hsz := hsz0
  have hW' := hW
  obtain ⟨p, q, hA0, hV, rfl, hfz, hnd⟩ := hW
  have hA : DataW.TrodAll enc Tryd.prog W 0 (fun _ => true) true Tryd.f7.params.toList args.toList ds p := hA0
  rw [Tryd.params7] at hA hval hsz
  obtain ⟨v0, vs0, d0, ds0, p0, q0, hargs, rfl, rfl, h0, r0⟩ := trodAll_cons hA
  obtain ⟨v1, vs1, d1, ds1, p1, q1, rfl, rfl, rfl, h1, r1⟩ := trodAll_cons r0
  obtain ⟨rfl, rfl, rfl⟩ := trodAll_nil r1
  obtain rfl : args = #[v0, v1] := by cases args; simp_all
  obtain ⟨rfl, rfl⟩ := trodVars_none hV
  have h0s : 0 < W.heap.size := by
    have hc := (table hL).cell gTab 0 (by decide)
    rcases Nat.lt_or_ge 0 W.heap.size with h | h
    · exact h
    · exfalso
      have : W.heap[0]? = none := Array.getElem?_eq_none h
      simp [World.cell?, this] at hc
  have hC : TabC W := tabC hL h0s
  have k0 := h0
  have lt0 : ∀ x ∈ p0, x.block < W.heap.size := by obtain ⟨m, hm⟩ := k0; exact DataW.trod_lt m _ _ _ hm
  have k1 := h1
  have lt1 : ∀ x ∈ p1, x.block < W.heap.size := by obtain ⟨m, hm⟩ := k1; exact DataW.trod_lt m _ _ _ hm
  have B0 := barg (hval 0 22 v0 rfl rfl) h0 hsz 0 rfl rfl
  have B1 := barg (hval 1 22 v1 rfl rfl) h1 hsz 1 rfl rfl
  clear hA0 hval0
  refine (walk v0 v1 W B0 B1 hC).mono fun e W' ⟨he, bel⟩ => ?_
  subst he
  exact ⟨_, rfl, _, _, _, [], _, [], hW', trodAll_mk1 (shut_bool Tryd.underlying4 _), (trodAll_cons_mk (Below.trod laidOut (by kernel_rfl) (of_decide_eq_true (by kernel_rfl)) k0 bel lt0) (trodAll_cons_mk (Below.trod laidOut (by kernel_rfl) (of_decide_eq_true (by kernel_rfl)) k1 bel lt1) trodAll_mk0)), rfl, bel.frame _, fun h => by cases h⟩

def wit : Array Value := #[.slice none 0 0, .slice none 0 0]
def dat {H : Type} : List (DataW H) := [.nil, .nil]
def setTab : Obj → Obj
  | .cells _ t frozen => .cells (tabL.map fun z => Value.int .u32 z).toArray t frozen
  | o => o
theorem laid_met (os : Os) : laidMet Tryd.prog Rows.hmacReadyRow.laid (({ World.holding Tryd.prog os ⟨#[], #[], []⟩ with heap := (World.holding Tryd.prog os ⟨#[], #[], []⟩).heap.modify 0 setTab } : World).forCall (fun _ _ => 0) ⟨#[], wit, []⟩).memory :=
  laidMet_of_run' 8 (by kernel_rfl) (by kernel_rfl)
theorem reads (os : Os) {H : Type} (enc : TypeId × Value → H) : ∃ places, DataW.whole enc Tryd.prog (({ World.holding Tryd.prog os ⟨#[], #[], []⟩ with heap := (World.holding Tryd.prog os ⟨#[], #[], []⟩).heap.modify 0 setTab } : World).forCall (fun _ _ => 0) ⟨#[], wit, []⟩).memory Tryd.f7.params.toList Rows.hmacReadySpec.vars false wit.toList 8 = some (dat, [], places) :=
  ⟨[], by kernel_rfl⟩

set_option maxRecDepth 100000 in
theorem lifted (os : Os) (started : os.Started) (H : Type) (enc : TypeId × Value → H) (F : Stop.Interp) :
    ReturnsInHanded {} Tryd.checked os 7 .any ((OpenSpec.ofChange Rows.hmacReadySpec).preRow enc Tryd.prog Tryd.f7 Rows.hmacReadyRow.domain false Rows.hmacReadyRow.laid) (((OpenSpec.ofChange Rows.hmacReadySpec).at F).post enc Tryd.prog Tryd.f7 false true false false) := by
  obtain ⟨places, hx⟩ := reads os enc
  refine returnsInHanded_of_row (C := Tryd.checked) (s := (OpenSpec.ofChange Rows.hmacReadySpec)) own started (by kernel_rfl) Tryd.func7
    (witness_row_at (enc := enc) (C := Tryd.checked) false ({ World.holding Tryd.prog os ⟨#[], #[], []⟩ with heap := (World.holding Tryd.prog os ⟨#[], #[], []⟩).heap.modify 0 setTab } : World) wit rfl (by kernel_rfl) (by kernel_rfl) (by kernel_rfl)
      (OpenSpec.preRow_of_cond 8 hx (by kernel_rfl) (fun k hk => by cases hk) (by kernel_rfl) (laid_met os))) ?_
  intro W base args ds gs before hval hW _ hcond hsz hL _ _
  exact contract H enc W base args ds gs before hval hW hL hsz

theorem said : Rows.HmacReadySaid :=
  OpenClaim.holds_of_cond 7 Tryd.f7 rfl rfl rfl rfl rfl rfl rfl ⟨rfl, rfl, rfl, rfl, rfl⟩ rfl rfl rfl rfl rfl (by kernel_rfl) Tryd.func7 (by kernel_rfl)
    (of_decide_eq_true (by kernel_rfl)) (by unfold Func.isWrapper; first | (rw [if_pos (by decide +kernel)]; kernel_rfl) | (rw [if_neg (by decide +kernel)]; exact ⟨rfl, rfl⟩))
    (fun os started H enc _ F => by rw [OpenClaim.pre_eq_preRow]; exact lifted os started H enc F)

theorem plain (f : FuncId) (fn : Func) (hf : Tryd.pinned.checked.prog.funcNamed "casket/casketlaw05.HmacReady" = some f) (hfn : Tryd.pinned.checked.prog.funcs[f]? = some fn) :
    false = Tryd.pinned.checked.prog.looks [] ∧ ∀ (j : Nat) t, fn.params[j]? = some t → Tryd.pinned.checked.prog.wantsStandIn t = false := by
  obtain rfl : f = 7 := Option.some.inj ((show Tryd.prog.funcNamed "casket/casketlaw05.HmacReady" = some 7 by kernel_rfl).symm.trans hf) |>.symm
  obtain rfl : fn = Tryd.f7 := (Option.some.inj (Tryd.func7.symm.trans hfn)).symm
  refine ⟨by kernel_rfl, fun j t ht => ?_⟩
  rw [Tryd.params7] at ht
  have hm : t ∈ [22, 22] := by simpa using Array.mem_of_getElem? ht
  have hall : ([22, 22].all fun u => !Tryd.prog.wantsStandIn u) = true := by kernel_rfl
  exact (show Tryd.prog.wantsStandIn t = false by simpa using List.all_eq_true.1 hall t hm)

theorem card : Rows.HmacReadyCardSaid :=
  Claim7.holds_tied_plain_at .later [] _ _ _ _ said (fun _ h => by cases h) (by kernel_rfl) (fun _ h => by cases h) hmacReady_row_tie rfl ⟨rfl, rfl⟩ (by kernel_rfl) rfl plain (by kernel_rfl)
end Go.Proofs.YthgflnjeojhgkaaDoor.hmacReady
namespace Go.Proofs.YthgflnjeojhgkaaDoor
theorem hmacReady_holds : Rows.HmacReadyCardSaid := hmacReady.card
end Go.Proofs.YthgflnjeojhgkaaDoor
