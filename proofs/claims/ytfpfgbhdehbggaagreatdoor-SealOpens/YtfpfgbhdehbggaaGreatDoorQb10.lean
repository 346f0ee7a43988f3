/-
  A key made ready; a digest begun with it, a mask added to each byte. A digest begun with a ready key; the two of a tag. A law for regions that draw their order, in which one block is made: operations that only read and calls stand anywhere, the block's value and content hang on the frame, the late operations behind them all.
-/
import Derived.Test.YtfpfgbhdehbggaaGreatDoorQb1
import Derived.Test.YtfpfgbhdehbggaaGreatDoorQb9
import Derived.Deep.CutRange
import Derived.Test.YtfpfgbhdehbggaaGreatDoorQb2
namespace Go.Proofs.YtfpfgbhdehbggaaGreatDoor
set_option maxRecDepth 20000
open Go.RowKit Go.BigFrame
def readyF (l : Nat) (key : Nat → BitVec 8) (j : Nat) : BitVec 8 := if 64 < l then (if j < 32 then shaF key l j else 0#8) else if j < l then key j else 0#8
def maskF (r : Nat → BitVec 8) (x : BitVec 8) (j : Nat) : BitVec 8 := xE8 (r j) x
theorem RowAt.lie {b n : Nat} {g : Nat → Value} {w : World} (h : RowAt b n g w) (m : Nat) (hm : m ≤ n) : LieAt ⟨b, 0, none⟩ m g w :=
  ⟨fun j hj => by
    have hadd : (⟨b, 0, none⟩ : Addr).add j = ⟨b, j, none⟩ := by unfold Addr.add; split <;> simp_all
    rw [hadd]
    exact h.1 j (by omega), h.2.2⟩
theorem cutR23 (b : Nat) (X : World) : Sem.run Tryz.prog (Instr.sliceAt 22 (.pointer (some ⟨b, 0, none⟩)) none none none) X = .ok (.slice (some ⟨b, 0, none⟩) 32 32) X := by
  kernel_rfl
theorem cutR54 (b : Nat) (X : World) : Sem.run Tryz.prog (Instr.sliceAt 26 (.pointer (some ⟨b, 0, none⟩)) none none none) X = .ok (.slice (some ⟨b, 0, none⟩) 64 64) X := by
  kernel_rfl
set_option maxRecDepth 20000 in
set_option maxHeartbeats 1000000 in
theorem ready_some (a : Addr) (l cap : Nat) (key : Nat → BitVec 8) (w : World) (hcap : l ≤ cap) (hb : LieAt a l (yv key) w) (hC : TabC w) (hl : l ≤ 140737488351232) :
    Calls Tryz.prog 86 #[.slice (some a) l cap] w fun e w' => e = .returned (.agg (row 64 (yv (readyF l key))).toArray) ∧ Below w.heap.size w w' := by
  have hz := zero29
  have hz2 := zero24
  obtain ⟨R, hR⟩ : ∃ R, R = readyF l key := ⟨_, rfl⟩
  rw [← hR]
  replace hR := hideit hR
  have HR0 := hideit (RowAt.new w 64 (yv fun _ => 0#8) 26)
  have HE0 : Ext w (w.alloc (.cells (row 64 (yv fun _ => 0#8)).toArray 26)) := (Below.refl _ _).alloc (Nat.le_refl _) _
  have HR1 := hideit (RowAt.new (w.alloc (.cells (row 64 (yv fun _ => 0#8)).toArray 26)) 64 (yv fun _ => 0#8) 26)
  have HE1 : Ext w ((w.alloc (.cells (row 64 (yv fun _ => 0#8)).toArray 26)).alloc (.cells (row 64 (yv fun _ => 0#8)).toArray 26)) := Ext.trans HE0 ((Below.refl _ _).alloc (Nat.le_refl _) _)
  have HR2 := hideit (RowAt.alloc HR0.out (.cells (row 64 (yv fun _ => 0#8)).toArray 26))
  have hsz : (w.alloc (.cells (row 64 (yv fun _ => 0#8)).toArray 26)).heap.size = w.heap.size + 1 := by simp
  rw [hsz] at HR1
  replace HE1 := hideit HE1
  clear HE0 HR0 hsz
  replace hC := hideit hC
  replace hb := hideit hb
  by_cases h64 : 64 < l
  · have i64 : (64 : Int) < (l : Int) := by omega
    have hs := shasum_any l cap key a _ (hb.out.carry HE1.out) hcap (by omega) (hC.out.ext HE1.out)
    obtain ⟨D, hD⟩ : ∃ D, D = shaF key l := ⟨_, rfl⟩
    rw [← hD] at hs
    replace hD := hideit hD
    replace hs := hideit hs
    go_enter Tryz.func86, Tryz.ntmps86
    go_upto_region 3 with (fail)
    generalize (w.alloc (.cells (row 64 (yv fun _ => 0#8)).toArray 26)).alloc (.cells (row 64 (yv fun _ => 0#8)).toArray 26) = w2 at *
    refine wp_region_lit ?_
    refine wpList_run rfl (.slice (some a) l cap) (by simp [go_sem]) ?_
    simp only [zp0, zp1, zp2, zp3]
    refine wpList_call rfl (by simp [go_sem]) (hs.out.mono ?_)
    rintro e w3 ⟨rfl, hw3⟩
    refine ⟨_, rfl, ?_⟩
    simp only [zp0, zp1, zp2, zp3]
    have HR3 := hideit (HR1.out.carry hw3)
    have HQ3 := hideit (HR2.out.carry hw3)
    have HE3 := hideit (Ext.trans HE1.out hw3)
    clear hs hw3 HR1 HR2 HE1
    have HN := hideit (RowAt.new w3 32 (yv fun _ => 0#8) 22)
    have hE4 : Ext w3 (w3.alloc (.cells (row 32 (yv fun _ => 0#8)).toArray 22)) := (Below.refl _ _).alloc (Nat.le_refl _) _
    have HR4 := hideit (HR3.out.carry hE4)
    have HQ4 := hideit (HQ3.out.carry hE4)
    have HE4 := hideit (Ext.trans HE3.out hE4)
    have hlt : w.heap.size + 1 < w3.heap.size := HR3.out.2.2
    clear hE4 HE3 HR3 HQ3
    refine wpList_to rfl (.pointer (some ⟨w3.heap.size, 0, none⟩)) (w3.alloc (.cells (row 32 (yv fun _ => 0#8)).toArray 22)) (by simp [go_sem, hz2]) ?_
    simp only [zp0, zp1, zp2, zp3]
    refine wpList_store_mid rfl 22 (.tmp 4) (.tmp 9) rfl _ 0 (row 32 (yv D)).toArray rfl rfl (by rw [row_size]; exact HN.out.there) (by rw [row_size]; exact info24) (row_one fun _ _ => rfl) ?_
    have HN2 := hideit (HN.out.cells (g' := yv D))
    have HR5 := hideit (HR4.out.cellsOther (c := w3.heap.size) (by omega) (row 32 (yv D)) 0)
    have HQ5 := hideit (HQ4.out.cellsOther (c := w3.heap.size) (by omega) (row 32 (yv D)) 0)
    have HE5 := hideit (below_setCells w3.heap.size (by omega) (row 32 (yv D)) 0 _ HE4.out)
    simp only at HN2 HR5 HQ5 HE5
    generalize ((w3.alloc (.cells (row 32 (yv fun _ => 0#8)).toArray 22)).setCells w3.heap.size 0 (row 32 (yv D))) = w5 at *
    clear HN HR4 HQ4 HE4
    simp only [Act.put]
    have c23 := cutR23
    have c54 := cutR54
    go_upto_region 5 with (fail)
    refine wp_region_lit ?_
    refine wpList_run rfl (.slice (some ⟨w.heap.size + 1, 0, none⟩) 64 64) (by simp [go_sem, c54]) ?_
    refine wpList_run rfl (.slice (some ⟨w3.heap.size, 0, none⟩) 32 32) (by simp [go_sem]) ?_
    simp only [zp0, zp1, zp2, zp3]
    refine wpList_copy_row rfl (.tmp 11) (.tmp 12) 25 25 rfl 5 Tryz.underlying25 info5 (w.heap.size + 1) 64 (yv fun _ => 0#8) HR5.out 0 64 64 ⟨w3.heap.size, 0, none⟩ 32 32 rfl rfl 32 (yv D) (by decide) (fun j hj => (HN2.out.lie 32 (by omega)).1 j hj) (by omega) (fun _ _ => rfl) ?_
    have HR6 : RowAt (w.heap.size + 1) 64 (yv R) (w5.setCells (w.heap.size + 1) 0 (row 32 (yv D))) := (HR5.out.part 0 32 (yv D) (by omega)).congr fun j hj => by
      rw [hR.out, hD.out]
      simp only [yv, readyF, if_pos h64, Nat.sub_zero]
      by_cases h : j < 32
      · rw [if_pos (by omega), if_pos h]
      · rw [if_neg (by omega), if_neg h]
    have HQ6 := hideit (HQ5.out.cellsOther (c := w.heap.size + 1) (by omega) (row 32 (yv D)) 0)
    have HE6 := hideit (below_setCells (w.heap.size + 1) (by omega) (row 32 (yv D)) 0 _ HE5.out)
    replace HR6 := hideit HR6
    generalize w5.setCells (w.heap.size + 1) 0 (row 32 (yv D)) = w6 at *
    clear HR5 HQ5 HE5 HN2
    simp only [zp0, zp1, zp2, zp3]
    go_wp2_with (first | (refine wpList_load_mid rfl 26 (.tmp 3) rfl _ 0 rfl (row 64 (yv R)) _ HR6.out.range Tryz.underlying26 rfl (by rw [row_length]; exact info29) ?_) | (refine wpList_store_mid rfl 26 (.tmp 2) (.tmp 14) rfl _ 0 (row 64 (yv R)).toArray rfl rfl (by rw [row_size]; exact HQ6.out.there) (by rw [row_size]; exact info29) (row_one fun _ _ => rfl) ?_))
    exact bodyPost_ret (ret_row Tryz.results86 rfl (HQ6.out.cells (g' := yv R)) Tryz.underlying26 rfl info29) rfl ⟨rfl, below_setCells _ (Nat.le_refl _) _ _ _ HE6.out⟩
  · have i64 : ¬ (64 : Int) < (l : Int) := by omega
    have c54 := cutR54
    go_enter Tryz.func86, Tryz.ntmps86
    go_upto_region 5 with (fail)
    have HL2 := hideit (hb.out.carry HE1.out)
    generalize (w.alloc (.cells (row 64 (yv fun _ => 0#8)).toArray 26)).alloc (.cells (row 64 (yv fun _ => 0#8)).toArray 26) = w5 at *
    refine wp_region_lit ?_
    refine wpList_run rfl (.slice (some ⟨w.heap.size + 1, 0, none⟩) 64 64) (by simp [go_sem, c54]) ?_
    refine wpList_run rfl (.slice (some a) l cap) (by simp [go_sem]) ?_
    simp only [zp0, zp1, zp2, zp3]
    refine wpList_copy_row rfl (.tmp 11) (.tmp 12) 25 25 rfl 5 Tryz.underlying25 info5 (w.heap.size + 1) 64 (yv fun _ => 0#8) HR1.out 0 64 64 a l cap rfl rfl l (yv key) (Nat.min_eq_left (by omega : l ≤ 64)).symm (fun j hj => HL2.out.1 j hj) (by omega) (fun _ _ => rfl) ?_
    have HR6 : RowAt (w.heap.size + 1) 64 (yv R) (w5.setCells (w.heap.size + 1) 0 (row l (yv key))) := (HR1.out.part 0 l (yv key) (by omega)).congr fun j hj => by
      rw [hR.out]
      simp only [yv, readyF, if_neg h64, Nat.sub_zero]
      by_cases h : j < l
      · rw [if_pos (by omega), if_pos h]
      · rw [if_neg (by omega), if_neg h]
    have HQ6 := hideit (HR2.out.cellsOther (c := w.heap.size + 1) (by omega) (row l (yv key)) 0)
    have HE6 := hideit (below_setCells (w.heap.size + 1) (by omega) (row l (yv key)) 0 _ HE1.out)
    replace HR6 := hideit HR6
    generalize w5.setCells (w.heap.size + 1) 0 (row l (yv key)) = w6 at *
    clear HR1 HR2 HE1 HL2
    simp only [zp0, zp1, zp2, zp3]
    go_wp2_with (first | (refine wpList_load_mid rfl 26 (.tmp 3) rfl _ 0 rfl (row 64 (yv R)) _ HR6.out.range Tryz.underlying26 rfl (by rw [row_length]; exact info29) ?_) | (refine wpList_store_mid rfl 26 (.tmp 2) (.tmp 14) rfl _ 0 (row 64 (yv R)).toArray rfl rfl (by rw [row_size]; exact HQ6.out.there) (by rw [row_size]; exact info29) (row_one fun _ _ => rfl) ?_))
    exact bodyPost_ret (ret_row Tryz.results86 rfl (HQ6.out.cells (g' := yv R)) Tryz.underlying26 rfl info29) rfl ⟨rfl, below_setCells _ (Nat.le_refl _) _ _ _ HE6.out⟩
theorem copy_none (b : Nat) (X : World) : (Builtin.copy_ #[25, 25] 3 #[.slice (some ⟨b, 0, none⟩) 64 64, .slice none 0 0]).run Tryz.prog X = .ok (.int .i64 0) X := by kernel_rfl
set_option maxRecDepth 20000 in
set_option maxHeartbeats 1000000 in
theorem ready_none (key : Nat → BitVec 8) (w : World) :
    Calls Tryz.prog 86 #[.slice none 0 0] w fun e w' => e = .returned (.agg (row 64 (yv (readyF 0 key))).toArray) ∧ Below w.heap.size w w' := by
  have hz := zero29
  have hR : readyF 0 key = fun _ => 0#8 := by
    funext j
    unfold readyF
    rw [if_neg (by omega), if_neg (by omega)]
  rw [hR]
  clear hR
  have HR0 := hideit (RowAt.new w 64 (yv fun _ => 0#8) 26)
  have HE0 : Ext w (w.alloc (.cells (row 64 (yv fun _ => 0#8)).toArray 26)) := (Below.refl _ _).alloc (Nat.le_refl _) _
  have HR1 := hideit (RowAt.new (w.alloc (.cells (row 64 (yv fun _ => 0#8)).toArray 26)) 64 (yv fun _ => 0#8) 26)
  have HE1 : Ext w ((w.alloc (.cells (row 64 (yv fun _ => 0#8)).toArray 26)).alloc (.cells (row 64 (yv fun _ => 0#8)).toArray 26)) := Ext.trans HE0 ((Below.refl _ _).alloc (Nat.le_refl _) _)
  have HR2 := hideit (RowAt.alloc HR0.out (.cells (row 64 (yv fun _ => 0#8)).toArray 26))
  have hsz : (w.alloc (.cells (row 64 (yv fun _ => 0#8)).toArray 26)).heap.size = w.heap.size + 1 := by simp
  rw [hsz] at HR1
  replace HE1 := hideit HE1
  clear HE0 HR0 hsz
  have c54 := cutR54
  have cn := copy_none
  go_enter Tryz.func86, Tryz.ntmps86
  go_upto_region 6 with (fail)
  generalize (w.alloc (.cells (row 64 (yv fun _ => 0#8)).toArray 26)).alloc (.cells (row 64 (yv fun _ => 0#8)).toArray 26) = w5 at *
  go_wp2_with (first | (refine wpList_load_mid rfl 26 (.tmp 3) rfl _ 0 rfl (row 64 (yv fun _ => 0#8)) _ HR1.out.range Tryz.underlying26 rfl (by rw [row_length]; exact info29) ?_) | (refine wpList_store_mid rfl 26 (.tmp 2) (.tmp 14) rfl _ 0 (row 64 (yv fun _ => 0#8)).toArray rfl rfl (by rw [row_size]; exact HR2.out.there) (by rw [row_size]; exact info29) (row_one fun _ _ => rfl) ?_))
  exact bodyPost_ret (ret_row Tryz.results86 rfl (HR2.out.cells (g' := yv fun _ => 0#8)) Tryz.underlying26 rfl info29) rfl ⟨rfl, below_setCells _ (Nat.le_refl _) _ _ _ HE1.out⟩
theorem ready_any (v : Value) (l : Nat) (key : Nat → BitVec 8) (w : World) (h : BV v l key w) (hC : TabC w) (hl : l ≤ 140737488351232) :
    Calls Tryz.prog 86 #[v] w fun e w' => e = .returned (.agg (row 64 (yv (readyF l key))).toArray) ∧ Below w.heap.size w w' := by
  rcases h with ⟨rfl, rfl⟩ | ⟨a, cap, rfl, h2, h3⟩
  · exact ready_none key w
  · exact ready_some a l cap key w h2 h3 hC hl
end Go.Proofs.YtfpfgbhdehbggaaGreatDoor
namespace Go.Proofs.YtfpfgbhdehbggaaGreatDoor
set_option maxRecDepth 20000
open Go.RowKit Go.BigFrame
set_option maxRecDepth 20000 in
set_option maxHeartbeats 1000000 in
theorem beginWith_any (r : Nat → BitVec 8) (x : BitVec 8) (w : World) (hC : TabC w) :
    Calls Tryz.prog 87 #[.agg (row 64 (yv r)).toArray, .int .u8 (x.toNat : Int)] w fun e w' => ∃ c, w.heap.size ≤ c ∧ e = .returned (.pointer (some ⟨c, 0, none⟩)) ∧ HashOf c (maskF r x) 64 w' ∧ Ext w w' := by
  have c54 := cutR54
  replace hC := hideit hC
  obtain ⟨M, hM⟩ : ∃ M, M = maskF r x := ⟨_, rfl⟩
  rw [← hM]
  have hm : ∀ n, xE8 (r n) x = M n := fun n => by rw [hM]; rfl
  replace hm := hideit hm
  clear hM
  go_enter Tryz.func87, Tryz.ntmps87
  go_wp2
  go_loopw [7] (fun i wr => ∃ n : Nat, n ≤ 64 ∧ i = .int .i64 n ∧ RowAt w.heap.size 64 (yv fun j => if j < n then M j else r j) wr ∧ Ext w wr) (fun i _ => 64 - (intOf i).toNat)
  case atStart =>
    exact ⟨0, by omega, rfl, (RowAt.new w 64 (yv r) 26).congr fun j _ => by simp [yv], (Below.refl _ _).alloc (Nat.le_refl _) _⟩
  case round =>
    obtain ⟨n, hn, rfl, h1, h2⟩ := hrel
    by_cases hlt : n < 64
    · have H1 := hideit h1
      have H2 := hideit h2
      have e1 := h1.1 n hlt
      have g1 := h1.2.1 n hlt
      clear h1 h2
      simp only [yv, if_neg (Nat.lt_irrefl n)] at e1
      have i0 : (0 : Int) ≤ (n : Int) := by omega
      have i1 : (n : Int) < 64 := by omega
      have hx := xor8' (r n) x
      rw [hm.out n] at hx
      go_wp2
      refine ⟨⟨n + 1, by omega, by go_num, (H1.out.set n (yv M n)).congr fun j _ => ?_, H2.out.setCell (Nat.le_refl _) _⟩, by simp [intOf]; omega⟩
      simp only [yv]
      by_cases e : j = n
      · subst e; rw [if_pos rfl, if_pos (by omega)]
      · rw [if_neg e]
        by_cases h : j < n
        · rw [if_pos h, if_pos (by omega)]
        · rw [if_neg h, if_neg (by omega)]
    · obtain rfl : n = 64 := by omega
      have HR := hideit (h1.congr (g' := yv M) fun j hj => by simp only [yv]; rw [if_pos hj])
      have HE := hideit h2
      clear h1 h2
      go_upto_region 7 with (go_at_call 103; refine (new_any _).mono ?_; rintro e w2 ⟨c, hc, rfl, hH, hE⟩; have HH := hideit hH; have HE2 := hideit (Ext.trans HE.out hE); have HR2 := hideit (HR.out.carry hE); have hlt2 : w.heap.size < wr.heap.size := HR.out.2.2; clear hH hE HR HE)
      have HO : HashOf c (fun _ => 0#8) 0 w2 := by
        unfold HashOf
        rw [pend_zero]
        exact HH.out
      have hwq := write_any c 0 64 64 (fun _ => 0#8) M ⟨w.heap.size, 0, none⟩ w2 HO (hC.out.ext HE2.out) (HR2.out.lie 64 (Nat.le_refl _)) (Nat.le_refl _) (by show w.heap.size ≠ c; omega) (by have := hC.out.2; omega) (by omega)
      replace hwq := hideit hwq
      clear HO HH
      go_upto_region 8 with (go_at_call 89; refine hwq.out.mono ?_; rintro e w3 ⟨rfl, h3, hB3⟩; have H3' := hideit h3; have HB3 := hideit hB3; clear h3 hB3)
      have H3 : HashOf c M 64 w3 := by
        have h4 := H3'.out
        rw [Nat.zero_add] at h4
        exact h4.congr fun j _ => by unfold catF; rw [if_neg (by omega), Nat.sub_zero]
      replace H3 := hideit H3
      have HE3 := hideit (Ext.but HE2.out HB3.out (by omega))
      clear H3' hwq HB3 HE2 HR2
      go_wp2
      go_ret
      exact ⟨c, by omega, rfl, H3.out, HE3.out⟩
end Go.Proofs.YtfpfgbhdehbggaaGreatDoor
namespace Go.Proofs.YtfpfgbhdehbggaaGreatDoor
open Go.RowKit
section
variable {P : Program} {ops : Array Oper} {W : World} {Q : Exit → Act → World → Prop}
def StrongM (P : Program) (ops : Array Oper) (W : World) (o : Oper) (n : Nat) (g : Nat → Value) (vf : Nat → Value) (a : Act) : Prop :=
  Region.wanted o (yielded ops a.tmps) = true ∧ ∀ w, Ext W w → ∃ C t, (execOp a.eval o).run P w = .ok (.value (vf w.heap.size)) (w.alloc (.cells C t)) ∧ ∀ j, j < n → C[j]? = some (g j)
theorem StrongM.put {o : Oper} {n : Nat} {g vf : Nat → Value} {u : Value} {a : Act} {d : Option Tmp} (hs : ∀ cs b, o.op ≠ .select cs b) (h : ∀ t, d = some t → t ∉ o.looksAt ops) : StrongM P ops W o n g vf (a.put d u) ↔ StrongM P ops W o n g vf a := by
  unfold StrongM
  rw [execOp_put (ops := ops) o hs a d u h, wanted_put o a d u h]
def MK (P : Program) (ops : Array Oper) (W : World) (Q : Exit → Act → World → Prop) (om : Oper) (lops : List Oper) (A : Act) : Prop :=
  ∃ n g vf, StrongM P ops W om n g vf A ∧ ∀ b w', W.heap.size ≤ b → Ext W w' → RowAt b n g w' → wpList P ops Q lops (A.put om.dst (vf b)) w'
def After (P : Program) (ops : Array Oper) (W : World) (Q : Exit → Act → World → Prop) (lops : List Oper) (b n : Nat) (g : Nat → Value) (A : Act) : Prop := ∀ w', Ext W w' → RowAt b n g w' → wpList P ops Q lops A w'
theorem mk_take {om : Oper} {lops : List Oper} (hsel : ∀ (j : Nat) (o : Oper) cs b, ops[j]? = some o → o.op ≠ .select cs b) {m : Nat} (hm : ops[m]? = some om) : ∀ (r : List Nat) (a : Act), (∀ k ∈ r, ∀ ok, ops[k]? = some ok → ok.apart ops om = true) →
    wpS P ops W (MK P ops W Q om lops) r a → ∃ n g vf, StrongM P ops W om n g vf a ∧ ∀ b, W.heap.size ≤ b → wpS P ops W (After P ops W Q lops b n g) r (a.put om.dst (vf b))
  | [], a, _, ⟨n, g, vf, h1, h2⟩ => ⟨n, g, vf, h1, fun b hb w' hw' hr => h2 b w' hb hw' hr⟩
  | k :: r, a, hap, ⟨ok, vk, h1, h2, h3⟩ => by
    obtain ⟨p1, p2, p3⟩ := Oper.apart_spec (hap k List.mem_cons_self ok h1)
    obtain ⟨n, g, vf, g1, g2⟩ := mk_take hsel hm r _ (fun k' hk' => hap k' (List.mem_cons_of_mem _ hk')) h3
    refine ⟨n, g, vf, (StrongM.put (fun cs b => hsel m om cs b hm) p1).1 g1, fun b hb => ⟨ok, vk, h1, (StrongY.put (fun cs b => hsel k ok cs b h1) p3).2 h2, ?_⟩⟩
    rw [← Act.put_comm a vk _ p2]
    exact g2 b hb
def lf (L : Array Bool) (l : List Nat) : List Nat := l.filter fun k => !L.getD k true
theorem lf_split {R : Nat → Nat → Prop} {L : Array Bool} {l : List Nat} {i : Nat} (hn : l.Nodup) (hp : l.Pairwise R) (hi : i ∈ l) (hL : L.getD i true = false) :
    ∃ r1 r2, lf L l = r1 ++ i :: r2 ∧ lf (L.setIfInBounds i true) l = r1 ++ r2 ∧ ∀ k ∈ r1, R k i ∧ L.getD k true = false := by
  obtain ⟨s, t, rfl⟩ := List.append_of_mem hi
  obtain ⟨_, n2, n3⟩ := List.nodup_append.1 hn
  have n4 := (List.nodup_cons.1 n2).1
  obtain ⟨_, _, q3⟩ := List.pairwise_append.1 hp
  have hne : ∀ k, k ≠ i → (L.setIfInBounds i true).getD k true = L.getD k true := fun k hk => getD_set_ne true (Ne.symm hk)
  have hself : (L.setIfInBounds i true).getD i true = true := by
    unfold Array.getD
    split
    · simp
    · rfl
  refine ⟨s.filter fun k => !L.getD k true, t.filter fun k => !L.getD k true, ?_, ?_, ?_⟩
  · unfold lf
    rw [List.filter_append, List.filter_cons, if_pos (by simp [hL])]
  · unfold lf
    rw [List.filter_append, List.filter_cons, if_neg (by simp [hself])]
    congr 1
    · exact List.filter_congr fun k hk => by rw [hne k (n3 k hk i List.mem_cons_self)]
    · exact List.filter_congr fun k hk => by rw [hne k (fun e => n4 (e ▸ hk))]
  · intro k hk
    obtain ⟨hk1, hk2⟩ := List.mem_filter.1 hk
    exact ⟨q3 k hk1 i List.mem_cons_self, by simpa using hk2⟩
theorem lf_other {L : Array Bool} {l : List Nat} {i : Nat} (h : i ∉ l) : lf (L.setIfInBounds i true) l = lf L l :=
  List.filter_congr fun k hk => by rw [getD_set_ne true (fun e : i = k => h (by rw [e]; exact hk))]
theorem lf_nil {L : Array Bool} {l : List Nat} (h : ∀ k ∈ l, L.getD k true = true) : lf L l = [] :=
  List.filter_eq_nil_iff.2 fun k hk => by simp [h k hk]
theorem lf_all {L : Array Bool} {l : List Nat} (h : ∀ k ∈ l, L.getD k true = false) : lf L l = l :=
  List.filter_eq_self.2 fun k hk => by simp [h k hk]
def edgeB (ops : Array Oper) (k j : Nat) : Bool := match ops[j]?, ops[k]? with
  | some o, some ok => o.after.any (fun e => Region.binds .any e && e.on == k) || ok.apart ops o
  | _, _ => false
theorem edgeB_spec {k j : Nat} {o ok : Oper} (hj : ops[j]? = some o) (hk : ops[k]? = some ok) (h : edgeB ops k j = true) : (∃ e ∈ o.after, Region.binds .any e = true ∧ e.on = k) ∨ ok.apart ops o = true := by
  unfold edgeB at h
  rw [hj, hk] at h
  simp only [Bool.or_eq_true] at h
  rcases h with h2 | h2
  · obtain ⟨e, he, h3⟩ := Array.any_eq_true'.1 h2
    simp only [Bool.and_eq_true, beq_iff_eq] at h3
    exact .inl ⟨e, he, h3.1, h3.2⟩
  · exact .inr h2
def textB (ops : Array Oper) : Bool := Region.noSelect ops && (List.range ops.size).all fun j => match ops[j]? with
  | none => false
  | some o => o.after.all (fun e => !Region.binds .any e || decide (e.on < j))
theorem textB_spec (h : textB ops = true) : (∀ (j : Nat) (o : Oper) cs b, ops[j]? = some o → o.op ≠ .select cs b) ∧ ∀ j o, ops[j]? = some o → ∀ e ∈ o.after, Region.binds .any e = true → e.on < j := by
  unfold textB at h
  rw [Bool.and_eq_true] at h
  refine ⟨Region.noSelect_spec h.1, fun j o ho e he hb => ?_⟩
  have hj : j < ops.size := (Array.getElem?_eq_some_iff.1 ho).1
  have h1 := List.all_eq_true.1 h.2 j (List.mem_range.2 hj)
  rw [ho] at h1
  have := Array.all_eq_true'.1 h1 e he
  simpa [hb] using this
structure MixAt' (P : Program) (ops : Array Oper) (W : World) (Q : Exit → Act → World → Prop) (ql : List Nat) (m : Nat) (om : Oper) (ll : List Nat) (lops : List Oper) (L : Array Bool) (A : Act) (w : World) : Prop where
  size : L.size = ops.size
  closed : Closed ops L
  way : (L.getD m false = false ∧ (∀ i ∈ ll, L.getD i false = false) ∧ Ext W w ∧ wpS P ops W (MK P ops W Q om lops) (lf L ql) A) ∨
    (L.getD m false = true ∧ (∀ i ∈ ll, L.getD i false = false) ∧ ∃ b n g, Ext W w ∧ RowAt b n g w ∧ wpS P ops W (After P ops W Q lops b n g) (lf L ql) A) ∨
    (L.getD m false = true ∧ (∀ k ∈ ql, L.getD k false = true) ∧ ∃ l1 l2 lo2, ll = l1 ++ l2 ∧ (∀ k ∈ l1, L.getD k false = true) ∧ (∀ k ∈ l2, L.getD k false = false) ∧ l2.map (ops[·]?) = lo2.map some ∧ wpList P ops Q lo2 A w)
theorem StrongM.wpOp {i : Nat} {o : Oper} {n : Nat} {g vf : Nat → Value} {a : Act} {w : World} {K : Act → World → Prop} (hi : ops[i]? = some o) (hw : Ext W w) (hy : StrongM P ops W o n g vf a)
    (hK : ∀ w', Ext w w' → RowAt w.heap.size n g w' → K (a.put o.dst (vf w.heap.size)) w') : wpOp P ops Q i K a w := by
  obtain ⟨h1, h2⟩ := hy
  obtain ⟨C, t, h3, h4⟩ := h2 w hw
  unfold Go.wpOp
  rw [hi]
  simp only [h1, if_true]
  refine .inl ?_
  unfold Oper.wp
  rw [h3]
  simp only [Oper.upon]
  exact hK _ ((Below.refl _ _).alloc (Nat.le_refl _) _) (RowAt.newOf w n g t C h4)
theorem wp_region_mix {id : Nat} {a : Act} {w : World} (ql : List Nat) (m : Nat) (om : Oper) (ll : List Nat) (lops : List Oper) (hmo : P.follows .mixedOrders = true) (hB : textB ops = true) (hm : ops[m]? = some om) (hll : ll.map (ops[·]?) = lops.map some)
    (hnd : (ql ++ m :: ll).Nodup) (hcov : ∀ i, i < ops.size → i ∈ ql ++ m :: ll) (hin : ∀ i ∈ ql ++ m :: ll, i < ops.size) (hq : ql.Pairwise (fun k j => edgeB ops k j = true)) (hqm : ∀ k ∈ ql, edgeB ops k m = true)
    (hl1 : ∀ j ∈ ll, ∀ k ∈ ql ++ [m], waits ops ops.size j k = true) (hl2 : ll.Pairwise (fun k j => waits ops ops.size j k = true))
    (h : wpS P ops w.drew (MK P ops w.drew Q om lops) ql a) : (Code.region id ops true).wp P Q a w := by
  obtain ⟨hsel, htx⟩ := textB_spec hB
  obtain ⟨nq, nml, ndis⟩ := List.nodup_append.1 hnd
  obtain ⟨nm, nl⟩ := List.nodup_cons.1 nml
  have mq : m ∉ ql := fun e => ndis m e m List.mem_cons_self rfl
  have lq : ∀ i ∈ ll, i ∉ ql := fun i hi e => ndis i e i (List.mem_cons_of_mem _ hi) rfl
  refine wp_region_inv (I := MixAt' P ops w.drew Q ql m om ll lops) hmo ?h0 ?hs ?he
  case h0 =>
    have hf : ∀ k d, k < ops.size → (Array.replicate ops.size false).getD k d = false := fun k d hk => by unfold Array.getD; simp [hk]
    refine ⟨by simp, ?_, .inl ⟨hf m _ (hin m (by simp)), fun i hi => hf i _ (hin i (by simp [hi])), Ext.refl _, ?_⟩⟩
    · intro i o ho hi
      rw [hf i _ (Array.getElem?_eq_some_iff.1 ho).1] at hi
      cases hi
    · rw [lf_all fun k hk => hf k _ (hin k (by simp [hk]))]
      exact h
  case hs =>
    intro L A X i o hI ho hl hdeps
    have hil : i < ops.size := (Array.getElem?_eq_some_iff.1 ho).1
    have hiL : i < L.size := by rw [hI.size]; exact hil
    have hlf := getD_flip hl
    have hsize : (L.setIfInBounds i true).size = ops.size := by simp [hI.size]
    have hclosed := hI.closed.step ho hdeps
    have hap : ∀ k, edgeB ops k i = true → L.getD k true = false → ∀ ok, ops[k]? = some ok → ok.apart ops o = true := by
      intro k hed hk ok hok
      rcases edgeB_spec ho hok hed with ⟨e, he, hbe, rfl⟩ | h2
      · have h3 := hdeps e he hbe
        rw [getD_flip hk] at h3
        cases h3
      · exact h2
    have hwt : ∀ k, waits ops ops.size i k = true → L.getD k false = true := fun k hk => waits_listed hI.closed _ i k o ho hdeps hk
    have keep : ∀ k d, i ≠ k → (L.setIfInBounds i true).getD k d = L.getD k d := fun k d hk => getD_set_ne d hk
    have hfl : ∀ k, k < ops.size → L.getD k false = L.getD k true := fun k hk => getD_flip' (by rw [hI.size]; exact hk)
    rcases hI.way with ⟨w1, w2, hX, hw⟩ | ⟨w1, w2, b, n, g, hX, hR, hw⟩ | ⟨w1, w2, l1, l2, lo2, e1, e2, e3, e4, hw⟩
    · rcases List.mem_append.1 (hcov i hil) with hiq | hir
      · obtain ⟨r1, r2, s1, s2, s3⟩ := lf_split nq hq hiq hl
        rw [s1] at hw
        obtain ⟨v, hv, hr⟩ := wpS_take hsel ho r2 r1 A (fun k hk => hap k (s3 k hk).1 (s3 k hk).2) hw
        refine StrongY.wpOp ho hX hv fun w' hw' => ⟨hsize, hclosed, .inl ⟨?_, fun k hk => ?_, hX.trans hw', ?_⟩⟩
        · rw [keep m _ (fun e => mq (e ▸ hiq))]; exact w1
        · rw [keep k _ (fun e => lq k hk (e ▸ hiq))]; exact w2 k hk
        · rw [s2]; exact hr
      · rcases List.mem_cons.1 hir with rfl | hil2
        · rw [hm] at ho
          injection ho with ho
          subst ho
          obtain ⟨n, g, vf, g1, g2⟩ := mk_take hsel hm (lf L ql) A (fun k hk => by
            obtain ⟨k1, k2⟩ := List.mem_filter.1 hk
            exact hap k (hqm k k1) (by simpa using k2)) hw
          refine StrongM.wpOp hm hX g1 fun w' hw' hR => ⟨hsize, hclosed, .inr (.inl ⟨getD_same hiL, fun k hk => ?_, _, n, g, hX.trans hw', hR, ?_⟩)⟩
          · rw [keep k _ (fun e => nm (e ▸ hk))]; exact w2 k hk
          · rw [lf_other mq]
            exact g2 X.heap.size (Below.size hX)
        · have := hwt m (hl1 i hil2 m (by simp))
          rw [w1] at this
          cases this
    · rcases List.mem_append.1 (hcov i hil) with hiq | hir
      · obtain ⟨r1, r2, s1, s2, s3⟩ := lf_split nq hq hiq hl
        rw [s1] at hw
        obtain ⟨v, hv, hr⟩ := wpS_take hsel ho r2 r1 A (fun k hk => hap k (s3 k hk).1 (s3 k hk).2) hw
        refine StrongY.wpOp ho hX hv fun w' hw' => ⟨hsize, hclosed, .inr (.inl ⟨?_, fun k hk => ?_, b, n, g, hX.trans hw', hR.carry hw', ?_⟩)⟩
        · rw [keep m _ (fun e => mq (e ▸ hiq))]; exact w1
        · rw [keep k _ (fun e => lq k hk (e ▸ hiq))]; exact w2 k hk
        · rw [s2]; exact hr
      · rcases List.mem_cons.1 hir with rfl | hil2
        · rw [w1] at hlf; cases hlf
        · have hall : ∀ k ∈ ql, L.getD k false = true := fun k hk => hwt k (hl1 i hil2 k (by simp [hk]))
          rw [lf_nil fun k hk => by rw [← hfl k (hin k (by simp [hk]))]; exact hall k hk] at hw
          have hw2 : wpList P ops Q lops A X := hw X hX hR
          cases hll' : ll with
          | nil => rw [hll'] at hil2; cases hil2
          | cons j l2 =>
            have hij : i = j := by
              rw [hll'] at hil2 hl2
              rcases List.mem_cons.1 hil2 with rfl | h2
              · rfl
              · have := hwt j ((List.pairwise_cons.1 hl2).1 i h2)
                rw [w2 j (by rw [hll']; exact List.mem_cons_self)] at this
                cases this
            subst hij
            rw [hll'] at hll nl
            cases lops with
            | nil => simp at hll
            | cons o' lo2 =>
              simp only [List.map_cons, List.cons.injEq] at hll
              rw [ho] at hll
              obtain ⟨ho', hrest⟩ := hll
              injection ho' with ho'
              subst ho'
              refine wpOp_of_list ho hw2 fun a' w' hh => ⟨hsize, hclosed, .inr (.inr ⟨?_, fun k hk => ?_, [i], l2, lo2, rfl, fun k hk => ?_, fun k hk => ?_, hrest, hh⟩)⟩
              · rw [keep m _ (fun e => nm (by rw [hll', ← e]; exact List.mem_cons_self))]; exact w1
              · rw [keep k _ (fun e => lq i (by rw [hll']; exact List.mem_cons_self) (e ▸ hk))]; exact hall k hk
              · obtain rfl : k = i := by simpa using hk
                exact getD_same hiL
              · rw [keep k _ (fun e => (List.nodup_cons.1 nl).1 (e ▸ hk))]
                exact w2 k (by rw [hll']; exact List.mem_cons_of_mem _ hk)
    · rcases List.mem_append.1 (hcov i hil) with hiq | hir
      · rw [w2 i hiq] at hlf; cases hlf
      · rcases List.mem_cons.1 hir with rfl | hil2
        · rw [w1] at hlf; cases hlf
        · have hi2 : i ∈ l2 := by
            rw [e1] at hil2
            rcases List.mem_append.1 hil2 with h2 | h2
            · rw [e2 i h2] at hlf; cases hlf
            · exact h2
          cases l2 with
          | nil => cases hi2
          | cons j l3 =>
            have hl2' := hl2
            have nl' := nl
            rw [e1] at hl2' nl'
            have hij : i = j := by
              rcases List.mem_cons.1 hi2 with rfl | h2
              · rfl
              · have := hwt j ((List.pairwise_cons.1 (List.pairwise_append.1 hl2').2.1).1 i h2)
                rw [e3 j List.mem_cons_self] at this
                cases this
            subst hij
            cases lo2 with
            | nil => simp at e4
            | cons o' lo3 =>
              simp only [List.map_cons, List.cons.injEq] at e4
              rw [ho] at e4
              obtain ⟨ho', hrest⟩ := e4
              injection ho' with ho'
              subst ho'
              obtain ⟨_, nl2, nl3⟩ := List.nodup_append.1 nl'
              refine wpOp_of_list ho hw fun a' w' hh => ⟨hsize, hclosed, .inr (.inr ⟨?_, fun k hk => ?_, l1 ++ [i], l3, lo3, by rw [e1]; simp, fun k hk => ?_, fun k hk => ?_, hrest, hh⟩)⟩
              · rw [keep m _ (fun e => nm (e ▸ hil2))]; exact w1
              · rw [keep k _ (fun e => lq i hil2 (e ▸ hk))]; exact w2 k hk
              · rcases List.mem_append.1 hk with h2 | h2
                · rw [keep k _ (fun e => nl3 k h2 i List.mem_cons_self e.symm)]; exact e2 k h2
                · obtain rfl : k = i := by simpa using h2
                  exact getD_same hiL
              · rw [keep k _ (fun e => (List.nodup_cons.1 nl2).1 (e ▸ hk))]
                exact e3 k (List.mem_cons_of_mem _ hk)
  case he =>
    intro L A X hI hr
    have hall : ∀ n k, k < n → k < ops.size → L.getD k false = true := by
      intro n
      induction n with
      | zero => intro k hk; omega
      | succ n ih =>
        intro k hk hkn
        cases hv : L.getD k false with
        | true => rfl
        | false =>
          exfalso
          have ho : ops[k]? = some ops[k] := Array.getElem?_eq_getElem hkn
          have hmem : k ∈ Region.ready .any ops L := mem_ready.2 ⟨by rw [← getD_flip' (by rw [hI.size]; omega)]; exact hv, ops[k], ho, fun e he hbe => ih e.on (by have := htx k _ ho e he hbe; omega) (by have := htx k _ ho e he hbe; omega)⟩
          rw [hr] at hmem
          cases hmem
    have hk : ∀ k, k < ops.size → L.getD k false = true := fun k hk => hall (k + 1) k (by omega) hk
    rcases hI.way with ⟨w1, w2, hX, hw⟩ | ⟨w1, w2, b, n, g, hX, hR, hw⟩ | ⟨w1, w2, l1, l2, lo2, e1, e2, e3, e4, hw⟩
    · rw [hk m (hin m (by simp))] at w1; cases w1
    · rw [lf_nil fun k hk2 => by rw [← getD_flip' (by rw [hI.size]; exact hin k (by simp [hk2]))]; exact hk k (hin k (by simp [hk2]))] at hw
      have hw2 : wpList P ops Q lops A X := hw X hX hR
      cases hll' : ll with
      | nil =>
        rw [hll'] at hll
        have : lops = [] := by cases lops with | nil => rfl | cons _ _ => simp at hll
        rw [this] at hw2
        exact hw2
      | cons j l2 =>
        have := w2 j (by rw [hll']; exact List.mem_cons_self)
        rw [hk j (hin j (by rw [hll']; simp))] at this
        cases this
    · cases l2 with
      | nil =>
        have : lo2 = [] := by cases lo2 with | nil => rfl | cons _ _ => simp at e4
        rw [this] at hw
        exact hw
      | cons j l3 =>
        have := e3 j List.mem_cons_self
        rw [hk j (hin j (by rw [e1]; simp))] at this
        cases this
theorem wpS_of_list {E : Act → Prop} : ∀ (l : List Nat) (lo : List Oper) (a : Act), l.map (ops[·]?) = lo.map some → wpStrong P ops W E lo a → wpS P ops W E l a
  | [], lo, a, hl, h => by
    cases lo with
    | nil => exact h
    | cons _ _ => simp at hl
  | i :: l, lo, a, hl, h => by
    cases lo with
    | nil => simp at hl
    | cons o lo =>
      simp only [List.map_cons, List.cons.injEq] at hl
      obtain ⟨v, h1, h2⟩ := h
      exact ⟨o, v, hl.1, h1, wpS_of_list l lo _ hl.2 h2⟩
end
end Go.Proofs.YtfpfgbhdehbggaaGreatDoor
