/-
  A key made ready; a digest begun with it, a mask added to each byte. A digest begun with a ready key; the two of a tag. A law for regions that draw their order, in which one block is made: operations that only read and calls stand anywhere, the block's value and content hang on the frame, the late operations behind them all.
-/
import Derived.Test.YtgjabfjkokpkiaaDoorQ1
import Derived.Test.YtgjabfjkokpkiaaDoorQ9
import Derived.Deep.CutRange
import Derived.Test.YtgjabfjkokpkiaaDoorQ2
namespace Go.Proofs.YtgjabfjkokpkiaaDoor
set_option maxRecDepth 20000
open Go.RowKit Go.BigFrame
def readyF (l : Nat) (key : Nat → BitVec 8) (j : Nat) : BitVec 8 := if 64 < l then (if j < 32 then shaF key l j else 0#8) else if j < l then key j else 0#8
def maskF (r : Nat → BitVec 8) (x : BitVec 8) (j : Nat) : BitVec 8 := xE8 (r j) x
theorem RowAt.lie {b n : Nat} {g : Nat → Value} {w : World} (h : RowAt b n g w) (m : Nat) (hm : m ≤ n) : LieAt ⟨b, 0, none⟩ m g w :=
  ⟨fun j hj => by
    have hadd : (⟨b, 0, none⟩ : Addr).add j = ⟨b, j, none⟩ := by unfold Addr.add; split <;> simp_all
    rw [hadd]
    exact h.1 j (by omega), h.2.2⟩
theorem cutR23 (b : Nat) (X : World) : Sem.run Tryd.prog (Instr.sliceAt 31 (.pointer (some ⟨b, 0, none⟩)) none none none) X = .ok (.slice (some ⟨b, 0, none⟩) 32 32) X := by
  kernel_rfl
theorem cutR54 (b : Nat) (X : World) : Sem.run Tryd.prog (Instr.sliceAt 23 (.pointer (some ⟨b, 0, none⟩)) none none none) X = .ok (.slice (some ⟨b, 0, none⟩) 64 64) X := by
  kernel_rfl
set_option maxRecDepth 20000 in
set_option maxHeartbeats 1000000 in
theorem ready_some (a : Addr) (l cap : Nat) (key : Nat → BitVec 8) (w : World) (hcap : l ≤ cap) (hb : LieAt a l (yv key) w) (hC : TabC w) (hl : l ≤ 140737488351232) :
    Calls Tryd.prog 68 #[.slice (some a) l cap] w fun e w' => e = .returned (.agg (row 64 (yv (readyF l key))).toArray) ∧ Below w.heap.size w w' := by
  have hz := zero29
  have hz2 := zero24
  obtain ⟨R, hR⟩ : ∃ R, R = readyF l key := ⟨_, rfl⟩
  rw [← hR]
  replace hR := hideit hR
  have HR0 := hideit (RowAt.new w 64 (yv fun _ => 0#8) 23)
  have HE0 : Ext w (w.alloc (.cells (row 64 (yv fun _ => 0#8)).toArray 23)) := (Below.refl _ _).alloc (Nat.le_refl _) _
  have HR1 := hideit (RowAt.new (w.alloc (.cells (row 64 (yv fun _ => 0#8)).toArray 23)) 64 (yv fun _ => 0#8) 23)
  have HE1 : Ext w ((w.alloc (.cells (row 64 (yv fun _ => 0#8)).toArray 23)).alloc (.cells (row 64 (yv fun _ => 0#8)).toArray 23)) := Ext.trans HE0 ((Below.refl _ _).alloc (Nat.le_refl _) _)
  have HR2 := hideit (RowAt.alloc HR0.out (.cells (row 64 (yv fun _ => 0#8)).toArray 23))
  have hsz : (w.alloc (.cells (row 64 (yv fun _ => 0#8)).toArray 23)).heap.size = w.heap.size + 1 := by simp
  rw [hsz] at HR1
  replace HE1 := hideit HE1
  clear HE0 HR0 hsz
  replace hC := hideit hC
  replace hb := hideit hb
  by_cases h64 : 64 < l
  · have i64 : (64 : Int) < (l : Int) := by omega
    have hs := shasum_any l cap key a _ (hb.out.carry HE1.out) hcap (by omega) (hC.out.ext HE1.out)
    obtain ⟨D, hD⟩ : ∃ D, D = shaF key l := ⟨_, rfl⟩
    rw [← hD] at hs
    replace hD := hideit hD
    replace hs := hideit hs
    go_enter Tryd.func68, Tryd.ntmps68
    go_upto_region 3 with (fail)
    generalize (w.alloc (.cells (row 64 (yv fun _ => 0#8)).toArray 23)).alloc (.cells (row 64 (yv fun _ => 0#8)).toArray 23) = w2 at *
    refine wp_region_lit ?_
    refine wpList_run rfl (.slice (some a) l cap) (by simp [go_sem]) ?_
    simp only [zp0, zp1, zp2, zp3]
    refine wpList_call rfl (by simp [go_sem]) (hs.out.mono ?_)
    rintro e w3 ⟨rfl, hw3⟩
    refine ⟨_, rfl, ?_⟩
    simp only [zp0, zp1, zp2, zp3]
    have HR3 := hideit (HR1.out.carry hw3)
    have HQ3 := hideit (HR2.out.carry hw3)
    have HE3 := hideit (Ext.trans HE1.out hw3)
    clear hs hw3 HR1 HR2 HE1
    have HN := hideit (RowAt.new w3 32 (yv fun _ => 0#8) 31)
    have hE4 : Ext w3 (w3.alloc (.cells (row 32 (yv fun _ => 0#8)).toArray 31)) := (Below.refl _ _).alloc (Nat.le_refl _) _
    have HR4 := hideit (HR3.out.carry hE4)
    have HQ4 := hideit (HQ3.out.carry hE4)
    have HE4 := hideit (Ext.trans HE3.out hE4)
    have hlt : w.heap.size + 1 < w3.heap.size := HR3.out.2.2
    clear hE4 HE3 HR3 HQ3
    refine wpList_to rfl (.pointer (some ⟨w3.heap.size, 0, none⟩)) (w3.alloc (.cells (row 32 (yv fun _ => 0#8)).toArray 31)) (by simp [go_sem, hz2]) ?_
    simp only [zp0, zp1, zp2, zp3]
    refine wpList_store_mid rfl 31 (.tmp 4) (.tmp 9) rfl _ 0 (row 32 (yv D)).toArray rfl rfl (by rw [row_size]; exact HN.out.there) (by rw [row_size]; exact info24) (row_one fun _ _ => rfl) ?_
    have HN2 := hideit (HN.out.cells (g' := yv D))
    have HR5 := hideit (HR4.out.cellsOther (c := w3.heap.size) (by omega) (row 32 (yv D)) 0)
    have HQ5 := hideit (HQ4.out.cellsOther (c := w3.heap.size) (by omega) (row 32 (yv D)) 0)
    have HE5 := hideit (below_setCells w3.heap.size (by omega) (row 32 (yv D)) 0 _ HE4.out)
    simp only at HN2 HR5 HQ5 HE5
    generalize ((w3.alloc (.cells (row 32 (yv fun _ => 0#8)).toArray 31)).setCells w3.heap.size 0 (row 32 (yv D))) = w5 at *
    clear HN HR4 HQ4 HE4
    simp only [Act.put]
    have c23 := cutR23
    have c54 := cutR54
    go_upto_region 5 with (fail)
    refine wp_region_lit ?_
    refine wpList_run rfl (.slice (some ⟨w.heap.size + 1, 0, none⟩) 64 64) (by simp [go_sem, c54]) ?_
    refine wpList_run rfl (.slice (some ⟨w3.heap.size, 0, none⟩) 32 32) (by simp [go_sem]) ?_
    simp only [zp0, zp1, zp2, zp3]
    refine wpList_copy_row rfl (.tmp 11) (.tmp 12) 22 22 rfl 5 Tryd.underlying22 info5 (w.heap.size + 1) 64 (yv fun _ => 0#8) HR5.out 0 64 64 ⟨w3.heap.size, 0, none⟩ 32 32 rfl rfl 32 (yv D) (by decide) (fun j hj => (HN2.out.lie 32 (by omega)).1 j hj) (by omega) (fun _ _ => rfl) ?_
    have HR6 : RowAt (w.heap.size + 1) 64 (yv R) (w5.setCells (w.heap.size + 1) 0 (row 32 (yv D))) := (HR5.out.part 0 32 (yv D) (by omega)).congr fun j hj => by
      rw [hR.out, hD.out]
      simp only [yv, readyF, if_pos h64, Nat.sub_zero]
      by_cases h : j < 32
      · rw [if_pos (by omega), if_pos h]
      · rw [if_neg (by omega), if_neg h]
    have HQ6 := hideit (HQ5.out.cellsOther (c := w.heap.size + 1) (by omega) (row 32 (yv D)) 0)
    have HE6 := hideit (below_setCells (w.heap.size + 1) (by omega) (row 32 (yv D)) 0 _ HE5.out)
    replace HR6 := hideit HR6
    generalize w5.setCells (w.heap.size + 1) 0 (row 32 (yv D)) = w6 at *
    clear HR5 HQ5 HE5 HN2
    simp only [zp0, zp1, zp2, zp3]
    go_wp2_with (first | (refine wpList_load_mid rfl 23 (.tmp 3) rfl _ 0 rfl (row 64 (yv R)) _ HR6.out.range Tryd.underlying23 rfl (by rw [row_length]; exact info29) ?_) | (refine wpList_store_mid rfl 23 (.tmp 2) (.tmp 14) rfl _ 0 (row 64 (yv R)).toArray rfl rfl (by rw [row_size]; exact HQ6.out.there) (by rw [row_size]; exact info29) (row_one fun _ _ => rfl) ?_))
    exact bodyPost_ret (ret_row Tryd.results68 rfl (HQ6.out.cells (g' := yv R)) Tryd.underlying23 rfl info29) rfl ⟨rfl, below_setCells _ (Nat.le_refl _) _ _ _ HE6.out⟩
  · have i64 : ¬ (64 : Int) < (l : Int) := by omega
    have c54 := cutR54
    go_enter Tryd.func68, Tryd.ntmps68
    go_upto_region 5 with (fail)
    have HL2 := hideit (hb.out.carry HE1.out)
    generalize (w.alloc (.cells (row 64 (yv fun _ => 0#8)).toArray 23)).alloc (.cells (row 64 (yv fun _ => 0#8)).toArray 23) = w5 at *
    refine wp_region_lit ?_
    refine wpList_run rfl (.slice (some ⟨w.heap.size + 1, 0, none⟩) 64 64) (by simp [go_sem, c54]) ?_
    refine wpList_run rfl (.slice (some a) l cap) (by simp [go_sem]) ?_
    simp only [zp0, zp1, zp2, zp3]
    refine wpList_copy_row rfl (.tmp 11) (.tmp 12) 22 22 rfl 5 Tryd.underlying22 info5 (w.heap.size + 1) 64 (yv fun _ => 0#8) HR1.out 0 64 64 a l cap rfl rfl l (yv key) (Nat.min_eq_left (by omega : l ≤ 64)).symm (fun j hj => HL2.out.1 j hj) (by omega) (fun _ _ => rfl) ?_
    have HR6 : RowAt (w.heap.size + 1) 64 (yv R) (w5.setCells (w.heap.size + 1) 0 (row l (yv key))) := (HR1.out.part 0 l (yv key) (by omega)).congr fun j hj => by
      rw [hR.out]
      simp only [yv, readyF, if_neg h64, Nat.sub_zero]
      by_cases h : j < l
      · rw [if_pos (by omega), if_pos h]
      · rw [if_neg (by omega), if_neg h]
    have HQ6 := hideit (HR2.out.cellsOther (c := w.heap.size + 1) (by omega) (row l (yv key)) 0)
    have HE6 := hideit (below_setCells (w.heap.size + 1) (by omega) (row l (yv key)) 0 _ HE1.out)
    replace HR6 := hideit HR6
    generalize w5.setCells (w.heap.size + 1) 0 (row l (yv key)) = w6 at *
    clear HR1 HR2 HE1 HL2
    simp only [zp0, zp1, zp2, zp3]
    go_wp2_with (first | (refine wpList_load_mid rfl 23 (.tmp 3) rfl _ 0 rfl (row 64 (yv R)) _ HR6.out.range Tryd.underlying23 rfl (by rw [row_length]; exact info29) ?_) | (refine wpList_store_mid rfl 23 (.tmp 2) (.tmp 14) rfl _ 0 (row 64 (yv R)).toArray rfl rfl (by rw [row_size]; exact HQ6.out.there) (by rw [row_size]; exact info29) (row_one fun _ _ => rfl) ?_))
    exact bodyPost_ret (ret_row Tryd.results68 rfl (HQ6.out.cells (g' := yv R)) Tryd.underlying23 rfl info29) rfl ⟨rfl, below_setCells _ (Nat.le_refl _) _ _ _ HE6.out⟩
theorem copy_none (b : Nat) (X : World) : (Builtin.copy_ #[22, 22] 3 #[.slice (some ⟨b, 0, none⟩) 64 64, .slice none 0 0]).run Tryd.prog X = .ok (.int .i64 0) X := by kernel_rfl
set_option maxRecDepth 20000 in
set_option maxHeartbeats 1000000 in
theorem ready_none (key : Nat → BitVec 8) (w : World) :
    Calls Tryd.prog 68 #[.slice none 0 0] w fun e w' => e = .returned (.agg (row 64 (yv (readyF 0 key))).toArray) ∧ Below w.heap.size w w' := by
  have hz := zero29
  have hR : readyF 0 key = fun _ => 0#8 := by
    funext j
    unfold readyF
    rw [if_neg (by omega), if_neg (by omega)]
  rw [hR]
  clear hR
  have HR0 := hideit (RowAt.new w 64 (yv fun _ => 0#8) 23)
  have HE0 : Ext w (w.alloc (.cells (row 64 (yv fun _ => 0#8)).toArray 23)) := (Below.refl _ _).alloc (Nat.le_refl _) _
  have HR1 := hideit (RowAt.new (w.alloc (.cells (row 64 (yv fun _ => 0#8)).toArray 23)) 64 (yv fun _ => 0#8) 23)
  have HE1 : Ext w ((w.alloc (.cells (row 64 (yv fun _ => 0#8)).toArray 23)).alloc (.cells (row 64 (yv fun _ => 0#8)).toArray 23)) := Ext.trans HE0 ((Below.refl _ _).alloc (Nat.le_refl _) _)
  have HR2 := hideit (RowAt.alloc HR0.out (.cells (row 64 (yv fun _ => 0#8)).toArray 23))
  have hsz : (w.alloc (.cells (row 64 (yv fun _ => 0#8)).toArray 23)).heap.size = w.heap.size + 1 := by simp
  rw [hsz] at HR1
  replace HE1 := hideit HE1
  clear HE0 HR0 hsz
  have c54 := cutR54
  have cn := copy_none
  go_enter Tryd.func68, Tryd.ntmps68
  go_upto_region 6 with (fail)
  generalize (w.alloc (.cells (row 64 (yv fun _ => 0#8)).toArray 23)).alloc (.cells (row 64 (yv fun _ => 0#8)).toArray 23) = w5 at *
  go_wp2_with (first | (refine wpList_load_mid rfl 23 (.tmp 3) rfl _ 0 rfl (row 64 (yv fun _ => 0#8)) _ HR1.out.range Tryd.underlying23 rfl (by rw [row_length]; exact info29) ?_) | (refine wpList_store_mid rfl 23 (.tmp 2) (.tmp 14) rfl _ 0 (row 64 (yv fun _ => 0#8)).toArray rfl rfl (by rw [row_size]; exact HR2.out.there) (by rw [row_size]; exact info29) (row_one fun _ _ => rfl) ?_))
  exact bodyPost_ret (ret_row Tryd.results68 rfl (HR2.out.cells (g' := yv fun _ => 0#8)) Tryd.underlying23 rfl info29) rfl ⟨rfl, below_setCells _ (Nat.le_refl _) _ _ _ HE1.out⟩
theorem ready_any (v : Value) (l : Nat) (key : Nat → BitVec 8) (w : World) (h : BV v l key w) (hC : TabC w) (hl : l ≤ 140737488351232) :
    Calls Tryd.prog 68 #[v] w fun e w' => e = .returned (.agg (row 64 (yv (readyF l key))).toArray) ∧ Below w.heap.size w w' := by
  rcases h with ⟨rfl, rfl⟩ | ⟨a, cap, rfl, h2, h3⟩
  · exact ready_none key w
  · exact ready_some a l cap key w h2 h3 hC hl
end Go.Proofs.YtgjabfjkokpkiaaDoor
namespace Go.Proofs.YtgjabfjkokpkiaaDoor
set_option maxRecDepth 20000
open Go.RowKit Go.BigFrame
set_option maxRecDepth 20000 in
set_option maxHeartbeats 1000000 in
theorem beginWith_any (r : Nat → BitVec 8) (x : BitVec 8) (w : World) (hC : TabC w) :
    Calls Tryd.prog 69 #[.agg (row 64 (yv r)).toArray, .int .u8 (x.toNat : Int)] w fun e w' => ∃ c, w.heap.size ≤ c ∧ e = .returned (.pointer (some ⟨c, 0, none⟩)) ∧ HashOf c (maskF r x) 64 w' ∧ Ext w w' := by
  have c54 := cutR54
  replace hC := hideit hC
  obtain ⟨M, hM⟩ : ∃ M, M = maskF r x := ⟨_, rfl⟩
  rw [← hM]
  have hm : ∀ n, xE8 (r n) x = M n := fun n => by rw [hM]; rfl
  replace hm := hideit hm
  clear hM
  go_enter Tryd.func69, Tryd.ntmps69
  go_wp2
  go_loopw [7] (fun i wr => ∃ n : Nat, n ≤ 64 ∧ i = .int .i64 n ∧ RowAt w.heap.size 64 (yv fun j => if j < n then M j else r j) wr ∧ Ext w wr) (fun i _ => 64 - (intOf i).toNat)
  case atStart =>
    exact ⟨0, by omega, rfl, (RowAt.new w 64 (yv r) 23).congr fun j _ => by simp [yv], (Below.refl _ _).alloc (Nat.le_refl _) _⟩
  case round =>
    obtain ⟨n, hn, rfl, h1, h2⟩ := hrel
    by_cases hlt : n < 64
    · have H1 := hideit h1
      have H2 := hideit h2
      have e1 := h1.1 n hlt
      have g1 := h1.2.1 n hlt
      clear h1 h2
      simp only [yv, if_neg (Nat.lt_irrefl n)] at e1
      have i0 : (0 : Int) ≤ (n : Int) := by omega
      have i1 : (n : Int) < 64 := by omega
      have hx := xor8' (r n) x
      rw [hm.out n] at hx
      go_wp2
      refine ⟨⟨n + 1, by omega, by go_num, (H1.out.set n (yv M n)).congr fun j _ => ?_, H2.out.setCell (Nat.le_refl _) _⟩, by simp [intOf]; omega⟩
      simp only [yv]
      by_cases e : j = n
      · subst e; rw [if_pos rfl, if_pos (by omega)]
      · rw [if_neg e]
        by_cases h : j < n
        · rw [if_pos h, if_pos (by omega)]
        · rw [if_neg h, if_neg (by omega)]
    · obtain rfl : n = 64 := by omega
      have HR := hideit (h1.congr (g' := yv M) fun j hj => by simp only [yv]; rw [if_pos hj])
      have HE := hideit h2
      clear h1 h2
      go_upto_region 7 with (go_at_call 87; refine (new_any _).mono ?_; rintro e w2 ⟨c, hc, rfl, hH, hE⟩; have HH := hideit hH; have HE2 := hideit (Ext.trans HE.out hE); have HR2 := hideit (HR.out.carry hE); have hlt2 : w.heap.size < wr.heap.size := HR.out.2.2; clear hH hE HR HE)
      have HO : HashOf c (fun _ => 0#8) 0 w2 := by
        unfold HashOf
        rw [pend_zero]
        exact HH.out
      have hwq := write_any c 0 64 64 (fun _ => 0#8) M ⟨w.heap.size, 0, none⟩ w2 HO (hC.out.ext HE2.out) (HR2.out.lie 64 (Nat.le_refl _)) (Nat.le_refl _) (by show w.heap.size ≠ c; omega) (by have := hC.out.2; omega) (by omega)
      replace hwq := hideit hwq
      clear HO HH
      go_upto_region 8 with (go_at_call 71; refine hwq.out.mono ?_; rintro e w3 ⟨rfl, h3, hB3⟩; have H3' := hideit h3; have HB3 := hideit hB3; clear h3 hB3)
      have H3 : HashOf c M 64 w3 := by
        have h4 := H3'.out
        rw [Nat.zero_add] at h4
        exact h4.congr fun j _ => by unfold catF; rw [if_neg (by omega), Nat.sub_zero]
      replace H3 := hideit H3
      have HE3 := hideit (Ext.but HE2.out HB3.out (by omega))
      clear H3' hwq HB3 HE2 HR2
      go_wp2
      go_ret
      exact ⟨c, by omega, rfl, H3.out, HE3.out⟩
end Go.Proofs.YtgjabfjkokpkiaaDoor
namespace Go.Proofs.YtgjabfjkokpkiaaDoor
open Go.RowKit
section
variable {P : Program} {ops : Array Oper} {W : World} {Q : Exit → Act → World → Prop}
def StrongM (P : Program) (ops : Array Oper) (W : World) (o : Oper) (n : Nat) (g : Nat → Value) (vf : Nat → Value) (a : Act) : Prop :=
  Region.wanted o (yielded ops a.tmps) = true ∧ ∀ w, Ext W w → ∃ C t, (execOp a.eval o).run P w = .ok (.value (vf w.heap.size)) (w.alloc (.cells C t)) ∧ ∀ j, j < n → C[j]? = some (g j)
theorem StrongM.put {o : Oper} {n : Nat} {g vf : Nat → Value} {u : Value} {a : Act} {d : Option Tmp} (hs : ∀ cs b, o.op ≠ .select cs b) (h : ∀ t, d = some t → t ∉ o.looksAt ops) : StrongM P ops W o n g vf (a.put d u) ↔ StrongM P ops W o n g vf a := by
  unfold StrongM
  rw [execOp_put (ops := ops) o hs a d u h, wanted_put o a d u h]
def MK (P : Program) (ops : Array Oper) (W : World) (Q : Exit → Act → World → Prop) (om : Oper) (lops : List Oper) (A : Act) : Prop :=
  ∃ n g vf, StrongM P ops W om n g vf A ∧ ∀ b w', W.heap.size ≤ b → Ext W w' → RowAt b n g w' → wpList P ops Q lops (A.put om.dst (vf b)) w'
def After (P : Program) (ops : Array Oper) (W : World) (Q : Exit → Act → World → Prop) (lops : List Oper) (b n : Nat) (g : Nat → Value) (A : Act) : Prop := ∀ w', Ext W w' → RowAt b n g w' → wpList P ops Q lops A w'
def lf (L : Array Bool) (l : List Nat) : List Nat := l.filter fun k => !L.getD k true
theorem lf_split {R : Nat → Nat → Prop} {L : Array Bool} {l : List Nat} {i : Nat} (hn : l.Nodup) (hp : l.Pairwise R) (hi : i ∈ l) (hL : L.getD i true = false) :
    ∃ r1 r2, lf L l = r1 ++ i :: r2 ∧ lf (L.setIfInBounds i true) l = r1 ++ r2 ∧ ∀ k ∈ r1, R k i ∧ L.getD k true = false := by
  obtain ⟨s, t, rfl⟩ := List.append_of_mem hi
  obtain ⟨_, n2, n3⟩ := List.nodup_append.1 hn
  have n4 := (List.nodup_cons.1 n2).1
  obtain ⟨_, _, q3⟩ := List.pairwise_append.1 hp
  have hne : ∀ k, k ≠ i → (L.setIfInBounds i true).getD k true = L.getD k true := fun k hk => getD_set_ne true (Ne.symm hk)
  have hself : (L.setIfInBounds i true).getD i true = true := by
    unfold Array.getD
    split
    · simp
    · rfl
  refine ⟨s.filter fun k => !L.getD k true, t.filter fun k => !L.getD k true, ?_, ?_, ?_⟩
  · unfold lf
    rw [List.filter_append, List.filter_cons, if_pos (by simp [hL])]
  · unfold lf
    rw [List.filter_append, List.filter_cons, if_neg (by simp [hself])]
    congr 1
    · exact List.filter_congr fun k hk => by rw [hne k (n3 k hk i List.mem_cons_self)]
    · exact List.filter_congr fun k hk => by rw [hne k (fun e => n4 (e ▸ hk))]
  · intro k hk
    obtain ⟨hk1, hk2⟩ := List.mem_filter.1 hk
    exact ⟨q3 k hk1 i List.mem_cons_self, by simpa using hk2⟩
theorem lf_other {L : Array Bool} {l : List Nat} {i : Nat} (h : i ∉ l) : lf (L.setIfInBounds i true) l = lf L l :=
  List.filter_congr fun k hk => by rw [getD_set_ne true (fun e : i = k => h (by rw [e]; exact hk))]
theorem lf_nil {L : Array Bool} {l : List Nat} (h : ∀ k ∈ l, L.getD k true = true) : lf L l = [] :=
  List.filter_eq_nil_iff.2 fun k hk => by simp [h k hk]
theorem lf_all {L : Array Bool} {l : List Nat} (h : ∀ k ∈ l, L.getD k true = false) : lf L l = l :=
  List.filter_eq_self.2 fun k hk => by simp [h k hk]
def edgeB (ops : Array Oper) (k j : Nat) : Bool := match ops[j]?, ops[k]? with
  | some o, some ok => o.after.any (fun e => Region.binds .any e && e.on == k) || ok.apart ops o
  | _, _ => false
theorem edgeB_spec {k j : Nat} {o ok : Oper} (hj : ops[j]? = some o) (hk : ops[k]? = some ok) (h : edgeB ops k j = true) : (∃ e ∈ o.after, Region.binds .any e = true ∧ e.on = k) ∨ ok.apart ops o = true := by
  unfold edgeB at h
  rw [hj, hk] at h
  simp only [Bool.or_eq_true] at h
  rcases h with h2 | h2
  · obtain ⟨e, he, h3⟩ := Array.any_eq_true'.1 h2
    simp only [Bool.and_eq_true, beq_iff_eq] at h3
    exact .inl ⟨e, he, h3.1, h3.2⟩
  · exact .inr h2
def textB (ops : Array Oper) : Bool := Region.noSelect ops && (List.range ops.size).all fun j => match ops[j]? with
  | none => false
  | some o => o.after.all (fun e => !Region.binds .any e || decide (e.on < j))
theorem textB_spec (h : textB ops = true) : (∀ (j : Nat) (o : Oper) cs b, ops[j]? = some o → o.op ≠ .select cs b) ∧ ∀ j o, ops[j]? = some o → ∀ e ∈ o.after, Region.binds .any e = true → e.on < j := by
  unfold textB at h
  rw [Bool.and_eq_true] at h
  refine ⟨Region.noSelect_spec h.1, fun j o ho e he hb => ?_⟩
  have hj : j < ops.size := (Array.getElem?_eq_some_iff.1 ho).1
  have h1 := List.all_eq_true.1 h.2 j (List.mem_range.2 hj)
  rw [ho] at h1
  have := Array.all_eq_true'.1 h1 e he
  simpa [hb] using this
structure MixAt' (P : Program) (ops : Array Oper) (W : World) (Q : Exit → Act → World → Prop) (ql : List Nat) (m : Nat) (om : Oper) (ll : List Nat) (lops : List Oper) (L : Array Bool) (A : Act) (w : World) : Prop where
  size : L.size = ops.size
  closed : Closed ops L
  way : (L.getD m false = false ∧ (∀ i ∈ ll, L.getD i false = false) ∧ Ext W w ∧ wpS P ops W (MK P ops W Q om lops) (lf L ql) A) ∨
    (L.getD m false = true ∧ (∀ i ∈ ll, L.getD i false = false) ∧ ∃ b n g, Ext W w ∧ RowAt b n g w ∧ wpS P ops W (After P ops W Q lops b n g) (lf L ql) A) ∨
    (L.getD m false = true ∧ (∀ k ∈ ql, L.getD k false = true) ∧ ∃ l1 l2 lo2, ll = l1 ++ l2 ∧ (∀ k ∈ l1, L.getD k false = true) ∧ (∀ k ∈ l2, L.getD k false = false) ∧ l2.map (ops[·]?) = lo2.map some ∧ wpList P ops Q lo2 A w)
theorem StrongM.wpOp {i : Nat} {o : Oper} {n : Nat} {g vf : Nat → Value} {a : Act} {w : World} {K : Act → World → Prop} (hi : ops[i]? = some o) (hw : Ext W w) (hy : StrongM P ops W o n g vf a)
    (hK : ∀ w', Ext w w' → RowAt w.heap.size n g w' → K (a.put o.dst (vf w.heap.size)) w') : wpOp P ops Q i K a w := by
  obtain ⟨h1, h2⟩ := hy
  obtain ⟨C, t, h3, h4⟩ := h2 w hw
  unfold Go.wpOp
  rw [hi]
  simp only [h1, if_true]
  refine .inl ?_
  unfold Oper.wp
  rw [h3]
  simp only [Oper.upon]
  exact hK _ ((Below.refl _ _).alloc (Nat.le_refl _) _) (RowAt.newOf w n g t C h4)
theorem wpS_of_list {E : Act → Prop} : ∀ (l : List Nat) (lo : List Oper) (a : Act), l.map (ops[·]?) = lo.map some → wpStrong P ops W E lo a → wpS P ops W E l a
  | [], lo, a, hl, h => by
    cases lo with
    | nil => exact h
    | cons _ _ => simp at hl
  | i :: l, lo, a, hl, h => by
    cases lo with
    | nil => simp at hl
    | cons o lo =>
      simp only [List.map_cons, List.cons.injEq] at hl
      obtain ⟨v, h1, h2⟩ := h
      exact ⟨o, v, hl.1, h1, wpS_of_list l lo _ hl.2 h2⟩
end
end Go.Proofs.YtgjabfjkokpkiaaDoor
