/-
  The document seals and opens. Sealing and opening in any case, the program's and the document's. Headers as rows of 24 cells; may they be, the program's and the document's.
-/
import Derived.Test.YtfpfgbhdehbggaaGreatDoorQc1
import Derived.Test.YtfpfgbhdehbggaaGreatDoorQc40
import Derived.Test.YtfpfgbhdehbggaaGreatDoorQc14
import Derived.Test.YtfpfgbhdehbggaaGreatDoorQc15
import Derived.Laws.Tables
namespace Go.Proofs.YtfpfgbhdehbggaaGreatDoor
open Go.RowKit Go.BigFrame
set_option linter.unusedVariables false
set_option maxRecDepth 20000
set_option maxRecDepth 20000 in
set_option maxHeartbeats 4000000 in
theorem rseal_ok (e n : Nat) (D T : Nat → BitVec 8) (a : Addr) (k : Nat) (f : Nat → BitVec 8) (w : World) (hk : 512 ≤ k) (hV : LieAt a 512 (yv f) w) (he1 : 1 ≤ e) (he : e < 4294967296) (hn : n < 1024) : Calls Tryz.prog 7 #[.agg (row 65 (ekV e D T)).toArray, .int .i64 (n : Int), .slice (some a) 512 k] w fun e' w' => ∃ v', e' = .returned (.tuple #[v', .agg (row 64 (yv (rcF e n T (seF D n f) 512))).toArray, .int .i64 0]) ∧ OwnB w.heap.size 5 v' 512 (yv (seF D n f)) w' ∧ Ext w w' := by
  have hrt : ∀ X, Calls Tryz.prog 17 #[.agg (row 65 (ekV e D T)).toArray, .int .i64 (n : Int)] X fun e' w' => e' = .returned (.bool true) ∧ Ext X w' := fun X => by
    have q := sright_any (e : Int) (n : Int) D T X
    rw [decide_eq_true (show okK (e : Int) (n : Int) by unfold okK; omega)] at q
    exact q
  have hcn : IntKind.u64.wrap (n : Int) = ((n4 n).toNat : Int) := by rw [n4_nat (by omega), IntKind.wrap_u64]; omega
  have hE := hideit (Ext.refl w)
  go_enter Tryz.func7, Tryz.ntmps7
  go_upto_region 0 with (fail)
  refine wp_region_lit ?_
  have A0 := hideit (RowAt.new w 65 (ekV e D T) 24)
  have XB : Ext w (w.alloc (.cells (row 65 (ekV e D T)).toArray 24)) := (Below.refl _ _).alloc (Nat.le_refl _) _
  have AE := hideit (Ext.trans hE.out (XB))
  have AB := hideit (hE.out.size)
  clear XB
  refine wpList_to rfl (.pointer (some ⟨w.heap.size, 0, none⟩)) (w.alloc (.cells (row 65 (ekV e D T)).toArray 24)) (by simp [go_sem]) ?_
  simp only [zp0, zp1, zp2, zp3]
  generalize w.alloc (.cells (row 65 (ekV e D T)).toArray 24) = x1 at A0 AE ⊢
  obtain ⟨c3, ec3⟩ : ∃ b, b = w.heap.size := ⟨_, rfl⟩
  have ABc3 : Hid (w.heap.size ≤ c3) := by rw [ec3]; exact AB.out
  clear AB
  rw [← ec3] at A0  ⊢
  clear ec3
  have Hc3 := A0
  clear A0
  replace hE := AE
  clear AE
  refine xm [some (.slice none 0 0)] (by kernel_rfl) (by simp [xr, go_sem]) ?_
  simp only [xw, p0, p1, p2, p3]
  have A0 := hideit (RowAt.new x1 64 (yv fun _ => 0#8) 26)
  have A1 := hideit (Hc3.out.alloc (.cells (row 64 (yv fun _ => 0#8)).toArray 26))
  have AE := hideit (Below.alloc hE.out (Below.size hE.out) (.cells (row 64 (yv fun _ => 0#8)).toArray 26))
  have AB := hideit (Below.size hE.out)
  have D0 : Hid (c3 ≠ x1.heap.size) := Nat.ne_of_lt Hc3.out.2.2
  refine wpList_to rfl (.pointer (some ⟨x1.heap.size, 0, none⟩)) (x1.alloc (.cells (row 64 (yv fun _ => 0#8)).toArray 26)) (xalloc 26 (row 64 (yv fun _ => 0#8)).toArray rfl (zero23 x1)) ?_
  simp only [zp0, zp1, zp2, zp3]
  generalize x1.alloc (.cells (row 64 (yv fun _ => 0#8)).toArray 26) = x3 at A0 A1 AE ⊢
  obtain ⟨z2, ez2⟩ : ∃ b, b = x1.heap.size := ⟨_, rfl⟩
  replace AB : Hid (w.heap.size ≤ z2) := by rw [ez2]; exact AB.out
  rw [← ez2] at A0 D0 ⊢
  clear ez2
  have Hz2 := A0
  clear A0
  replace Hc3 := A1
  clear A1
  replace hE := AE
  clear AE
  have ABz2 := AB
  clear AB
  have Dz2_0 := D0
  clear D0
  refine xm [some (.int .i64 0)] (by kernel_rfl) (by simp [xr, go_sem]) ?_
  simp only [xw, p0, p1, p2, p3]
  go_upto_region 1 with (fail)
  refine wp_region_lit ?_
  refine wpList_run rfl (.agg (row 65 (ekV e D T)).toArray) (xload 24 (.tmp 3) rfl c3 0 65 _ rfl Hc3.out.range Tryz.underlying24 rfl inf50) ?_
  simp only [zp0, zp1, zp2, zp3]
  refine xm [some (.int .i64 (n : Int))] (by kernel_rfl) (by simp [xr, go_sem]) ?_
  simp only [xw, p0, p1, p2, p3]
  refine wpList_call rfl (by simp [go_sem]) ((hrt x3).mono ?_)
  rintro e y4 ⟨rfl, hX5⟩
  refine ⟨_, rfl, ?_⟩
  simp only [zp0, zp1, zp2, zp3]
  replace Hc3 := hideit (Hc3.out.carry hX5)
  replace Hz2 := hideit (Hz2.out.carry hX5)
  replace hE := hideit (Ext.trans hE.out (hX5))
  clear hX5
  refine xm [some (.bool false)] (by kernel_rfl) (by simp [xr, go_sem]) ?_
  simp only [xw, p0, p1, p2, p3]
  go_upto_region 3 with (fail)
  refine wp_region_lit ?_
  refine xm [some (.slice (some a) 512 k), some (.int .i64 512), some (.bool false)] (by kernel_rfl) (by simp [xr, go_sem]) ?_
  simp only [xw, p0, p1, p2, p3]
  go_upto_region 5 with (fail)
  refine wp_region_lit ?_
  refine xm [some (.pointer (some ⟨c3, 1, none⟩))] (by kernel_rfl) (by simp [xr, go_sem]) ?_
  simp only [xw, p0, p1, p2, p3]
  refine xm [some (.slice (some ⟨c3, 1, none⟩) 32 32)] (by kernel_rfl) (by simp [xr, go_sem]) ?_
  simp only [xw, p0, p1, p2, p3]
  obtain ⟨Bp, hBp⟩ : ∃ b, b = y4.heap.size := ⟨_, rfl⟩
  refine wpList_call rfl (by simp [go_sem]) ((rxnew4_any ⟨c3, 1, none⟩ 32 D y4 (ek_data Hc3.out) (by decide)).mono ?_)
  rintro e y1 ⟨q, rfl, hP, hX1⟩
  refine ⟨_, rfl, ?_⟩
  simp only [zp0, zp1, zp2, zp3]
  replace Hc3 := hideit (Hc3.out.carry hX1)
  replace Hz2 := hideit (Hz2.out.carry hX1)
  replace hE := hideit (Ext.trans hE.out (hX1))
  replace hP := hideit hP
  rw [← hBp] at hP
  clear hX1 hBp
  refine xm [some (.tuple #[.pointer (some ⟨q, 0, none⟩), .int .i64 0]), some (.pointer (some ⟨q, 0, none⟩)), some (.int .i64 0), some (.pointer (some ⟨q, 0, none⟩)), some (.int .i64 0)] (by kernel_rfl) (by simp [xr, go_sem]) ?_
  simp only [xw, p0, p1, p2, p3]
  go_upto_region 6 with (fail)
  refine wp_region_lit ?_
  refine xm [some (.pointer (some ⟨q, 0, none⟩)), some (.int .i64 (n : Int))] (by kernel_rfl) (by simp [xr, go_sem]) ?_
  simp only [xw, p0, p1, p2, p3]
  refine xm [some (.int .u64 ((n4 n).toNat : Int)), some (.slice (some a) 512 k)] (by kernel_rfl) (by simp [xr, go_sem, hcn]) ?_
  simp only [xw, p0, p1, p2, p3]
  have hb1 := hideit (Below.size hE.out)
  have hzl := hideit Hz2.out.2.2
  refine wpList_call rfl (by simp [go_sem]) ((renc512 _ q k _ _ (n4 n) a f y1 hP.out hk (hV.carry hE.out)).mono ?_)
  rintro e y2 ⟨v6, rfl, hO, hX2⟩
  refine ⟨_, rfl, ?_⟩
  simp only [zp0, zp1, zp2, zp3]
  replace Hc3 := hideit (Hc3.out.carry hX2)
  replace Hz2 := hideit (Hz2.out.carry hX2)
  replace hE := hideit (Ext.trans hE.out (hX2))
  have hO6 := hideit (show OwnB y1.heap.size 5 v6 512 (yv (seF D n f)) y2 from hO)
  clear hX2 hO hP
  refine xm [some (.tuple #[v6, .int .i64 0]), some (v6), some (.int .i64 0), some (v6), some (.int .i64 0)] (by kernel_rfl) (by simp [xr, go_sem]) ?_
  simp only [xw, p0, p1, p2, p3]
  go_upto_region 7 with (fail)
  refine wp_region_lit ?_
  refine xm [some (v6)] (by kernel_rfl) (by simp [xr, go_sem]) ?_
  simp only [xw, p0, p1, p2, p3]
  refine wpList_run rfl (.agg (row 65 (ekV e D T)).toArray) (xload 24 (.tmp 3) rfl c3 0 65 _ rfl Hc3.out.range Tryz.underlying24 rfl inf50) ?_
  simp only [zp0, zp1, zp2, zp3]
  refine xm [some (.int .i64 (n : Int)), some (v6)] (by kernel_rfl) (by simp [xr, go_sem]) ?_
  simp only [xw, p0, p1, p2, p3]
  refine wpList_call rfl (by simp [go_sem]) ((rrOf_any e n D T v6 (seF D n f) y2 hO6.out.bv he (by omega)).mono ?_)
  rintro e y3 ⟨rfl, hX3⟩
  refine ⟨_, rfl, ?_⟩
  simp only [zp0, zp1, zp2, zp3]
  replace Hc3 := hideit (Hc3.out.carry hX3)
  replace Hz2 := hideit (Hz2.out.carry hX3)
  replace hE := hideit (Ext.trans hE.out (hX3))
  replace hO6 := hideit (hO6.out.ext hX3)
  clear hX3
  refine xm [some (v6)] (by kernel_rfl) (by simp [xr, go_sem]) ?_
  simp only [xw, p0, p1, p2, p3]
  have N0 := hideit (Hz2.out.cells (g' := yv (rcF e n T (seF D n f) 512)))
  have N1 := hideit (Hc3.out.cellsOther (Ne.symm (Dz2_0.out)) (row 64 (yv (rcF e n T (seF D n f) 512))) 0)
  have NE := hideit (below_setCells z2 (ABz2.out) (row 64 (yv (rcF e n T (seF D n f) 512))) 0 _ hE.out)
  have hO9 := hideit ((own_cells hO6.out (b := z2) (fun q => by have h1 := (hO6.out.lt _ q).1; have h2 := hzl.out; omega) (row 64 (yv (rcF e n T (seF D n f) 512))) 0).down hb1.out)
  refine xst rfl (y3.setCells z2 0 (row 64 (yv (rcF e n T (seF D n f) 512)))) (xstore 26 (.tmp 7) (.tmp 40) rfl z2 64 _ (yv (rcF e n T (seF D n f) 512)) rfl rfl Hz2.out inf23 (fun j _ => rfl)) ?_
  simp only [Act.put]
  generalize y3.setCells z2 0 (row 64 (yv (rcF e n T (seF D n f) 512))) = x6 at N0 N1 NE hO9 ⊢
  replace Hz2 := N0
  replace Hc3 := N1
  replace hE := NE
  clear N0 N1 NE
  refine xm [some (.int .i64 0)] (by kernel_rfl) (by simp [xr, go_sem]) ?_
  simp only [xw, p0, p1, p2, p3]
  go_wp2
  exact bodyPost_ret (ret_rowm rfl rfl (Hz2.out) Tryz.underlying26 rfl inf23) rfl ⟨_, rfl, hO9.out, hE.out⟩
end Go.Proofs.YtfpfgbhdehbggaaGreatDoor
namespace Go.Proofs.YtfpfgbhdehbggaaGreatDoor
open Go.RowKit Go.BigFrame
set_option linter.unusedVariables false
set_option maxRecDepth 20000
theorem eql26 (f g : Nat → BitVec 8) (r : Bool) (hr : r = true ↔ ∀ j, j < 64 → f j = g j) (w : World) : (binOp .eql 26 (.agg (row 64 (yv f)).toArray) (.agg (row 64 (yv g)).toArray)).run Tryz.prog w = .ok (.bool r) w := by
  have e := equalIn_row (P := Tryz.prog) 9998 26 5 64 .u8 Tryz.underlying26 Tryz.underlying5 Tryz.sizeOf5 (fun j => ((f j).toNat : Int)) (fun j => ((g j).toNat : Int)) w
  have e2 : ((List.range 64).all fun j => ((f j).toNat : Int) == ((g j).toNat : Int)) = r := by rw [Bool.eq_iff_iff, hr, all_iff, decide_eq_true_iff]
  rw [e2] at e
  rw [run_eql_struct]
  show ((Op.equalIn (9998 + 2) 26 (.agg (row 64 fun j => .int .u8 ((f j).toNat : Int)).toArray) (.agg (row 64 fun j => .int .u8 ((g j).toNat : Int)).toArray)).run Tryz.prog w).andThen _ = _
  rw [e]
  rfl
def seL (e n : Int) (l : Nat) : Nat := if sC e n l = 0 then 512 else 0
def srF (e n : Int) (D T : Nat → BitVec 8) (l : Nat) (f : Nat → BitVec 8) (j : Nat) : BitVec 8 := if sC e n l = 0 then rcF e.toNat n.toNat T (seF D n.toNat f) 512 j else 0#8
def opC (e n : Int) (T : Nat → BitVec 8) (l : Nat) (g R : Nat → BitVec 8) : Int := if sC e n l = 0 then (if eqN 64 (rcF e.toNat n.toNat T g 512) R = true then 0 else 160) else sC e n l
def opL (e n : Int) (T : Nat → BitVec 8) (l : Nat) (g R : Nat → BitVec 8) : Nat := if opC e n T l g R = 0 then 512 else 0
theorem opC_ok {e n : Int} {T : Nat → BitVec 8} {l : Nat} {g R : Nat → BitVec 8} (h : opC e n T l g R = 0) : sC e n l = 0 ∧ ∀ j, j < 64 → rcF e.toNat n.toNat T g 512 j = R j := by
  unfold opC at h
  by_cases h1 : sC e n l = 0
  · rw [if_pos h1] at h
    by_cases h2 : eqN 64 (rcF e.toNat n.toNat T g 512) R = true
    · exact ⟨h1, eqN_iff.1 h2⟩
    · rw [if_neg h2] at h; cases h
  · rw [if_neg h1] at h; exact absurd h h1
theorem opC_0 {e n : Int} {T : Nat → BitVec 8} {l : Nat} {g R : Nat → BitVec 8} (h1 : sC e n l = 0) (h2 : ∀ j, j < 64 → rcF e.toNat n.toNat T g 512 j = R j) : opC e n T l g R = 0 := (if_pos h1).trans (if_pos (eqN_iff.2 h2))
theorem opC_160 {e n : Int} {T : Nat → BitVec 8} {l : Nat} {g R : Nat → BitVec 8} (h1 : sC e n l = 0) (h2 : ¬ ∀ j, j < 64 → rcF e.toNat n.toNat T g 512 j = R j) : opC e n T l g R = 160 := (if_pos h1).trans (if_neg fun q => h2 (eqN_iff.1 q))
theorem opC_no {e n : Int} {T : Nat → BitVec 8} {l : Nat} {g R : Nat → BitVec 8} (h1 : ¬ sC e n l = 0) : opC e n T l g R = sC e n l := if_neg h1
theorem opL_0 {e n : Int} {T : Nat → BitVec 8} {l : Nat} {g R : Nat → BitVec 8} (h1 : opC e n T l g R = 0) : opL e n T l g R = 512 := if_pos h1
theorem opL_no {e n : Int} {T : Nat → BitVec 8} {l : Nat} {g R : Nat → BitVec 8} (h1 : ¬ opC e n T l g R = 0) : opL e n T l g R = 0 := if_neg h1
theorem rseal_any (e n : Int) (D T : Nat → BitVec 8) (v : Value) (l : Nat) (f : Nat → BitVec 8) (w : World) (hV : BV v l f w) (h9 : e < 9223372036854775808) : Calls Tryz.prog 7 #[.agg (row 65 (ekI e D T)).toArray, .int .i64 n, v] w fun e' w' => ∃ u, e' = .returned (.tuple #[u, .agg (row 64 (yv (srF e n D T l f))).toArray, .int .i64 (sC e n l)]) ∧ BV u (seL e n l) (seF D n.toNat f) w' ∧ Ext w w' := by
  by_cases h : sC e n l = 0
  · obtain ⟨⟨h1, h2, h3, h4⟩, rfl⟩ := sC_ok h
    have e1 : (fun j => srF e n D T 512 f j) = fun j => rcF e.toNat n.toNat T (seF D n.toNat f) 512 j := funext fun j => if_pos h
    have e2 : seL e n 512 = 512 := if_pos h
    show Calls _ _ _ _ fun e' w' => ∃ u, e' = .returned (.tuple #[u, .agg (row 64 (yv (fun j => srF e n D T 512 f j))).toArray, _]) ∧ _
    rw [e1, e2, h]
    clear e1 e2 h
    obtain ⟨a, rfl⟩ : ∃ a : Nat, e = (a : Int) := ⟨e.toNat, by omega⟩
    obtain ⟨b, rfl⟩ : ∃ b : Nat, n = (b : Int) := ⟨n.toNat, by omega⟩
    replace h1 : 1 ≤ a := by omega
    replace h4 : b < 1024 := by omega
    rcases hV with ⟨_, h0⟩ | ⟨q, k, rfl, hk, hL⟩
    · omega
    have hV : BV (.slice (some q) 512 k) 512 f w := .inr ⟨q, k, rfl, hk, hL⟩
    refine (rseal_ok a b D T q k f w hk hL h1 (by omega) h4).mono ?_
    rintro e' w' ⟨u, rfl, hO, hX⟩
    exact ⟨u, rfl, hO.bv, hX⟩
  · have e1 : (fun j => srF e n D T l f j) = fun _ => 0#8 := funext fun j => if_neg h
    have e2 : seL e n l = 0 := if_neg h
    show Calls _ _ _ _ fun e' w' => ∃ u, e' = .returned (.tuple #[u, .agg (row 64 (yv (fun j => srF e n D T l f j))).toArray, _]) ∧ _
    rw [e1, e2]
    obtain ⟨o, k, rfl⟩ := hV.form
    refine (rseal_no e n D T o l k w h).mono ?_
    rintro e' w' ⟨rfl, hX⟩
    exact ⟨_, rfl, .inl ⟨rfl, rfl⟩, hX⟩
theorem open_any (e n : Int) (D T : Nat → BitVec 8) (R : Nat → BitVec 8) (v : Value) (l : Nat) (g : Nat → BitVec 8) (w : World) (hV : BV v l g w) (h9 : e < 9223372036854775808) (hC : TabC w) : Calls Tryz.prog 9 #[.agg (row 65 (ekI e D T)).toArray, .int .i64 n, v, .agg (row 64 (yv R)).toArray] w fun e' w' => ∃ u, e' = .returned (.tuple #[u, .int .i64 (opC e n T l g R)]) ∧ BV u (opL e n T l g R) (opF D n.toNat g) w' ∧ Ext w w' := by
  by_cases h : sC e n l = 0
  · obtain ⟨⟨h1, h2, h3, h4⟩, rfl⟩ := sC_ok h
    rcases hV with ⟨_, h0⟩ | ⟨q, k, rfl, hk, hL⟩
    · omega
    have hV : BV (.slice (some q) 512 k) 512 g w := .inr ⟨q, k, rfl, hk, hL⟩
    by_cases h5 : ∀ j, j < 64 → rcF e.toNat n.toNat T g 512 j = R j
    · have e1 := opC_0 h h5
      rw [opL_0 e1, e1]
      clear e1 h
      obtain ⟨a, rfl⟩ : ∃ a : Nat, e = (a : Int) := ⟨e.toNat, by omega⟩
      obtain ⟨b, rfl⟩ : ∃ b : Nat, n = (b : Int) := ⟨n.toNat, by omega⟩
      replace h1 : 1 ≤ a := by omega
      replace h4 : b < 1024 := by omega
      refine (open_yes a b D T R (.slice (some q) 512 k) g w hV hC h1 (by omega) h4 (fun j hj => (h5 j hj).symm)).mono ?_
      rintro e' w' ⟨u, rfl, hO, hX⟩
      exact ⟨u, rfl, hO.bv, hX⟩
    · have e1 := opC_160 h h5
      rw [opL_no (show ¬ opC e n T 512 g R = 0 by rw [e1]; decide), e1]
      clear e1 h
      obtain ⟨a, rfl⟩ : ∃ a : Nat, e = (a : Int) := ⟨e.toNat, by omega⟩
      obtain ⟨b, rfl⟩ : ∃ b : Nat, n = (b : Int) := ⟨n.toNat, by omega⟩
      replace h1 : 1 ≤ a := by omega
      replace h4 : b < 1024 := by omega
      refine (open_no a b D T R (.slice (some q) 512 k) g w hV hC h1 (by omega) h4 (fun x => h5 fun j hj => (x j hj).symm)).mono ?_
      rintro e' w' ⟨rfl, hX⟩
      exact ⟨_, rfl, .inl ⟨rfl, rfl⟩, hX⟩
  · have e1 := opC_no (T := T) (g := g) (R := R) h
    rw [opL_no (show ¬ opC e n T l g R = 0 by rw [e1]; exact h), e1]
    obtain ⟨o, k, rfl⟩ := hV.form
    refine (open_bad e n D T o l k w R h9 h).mono ?_
    rintro e' w' ⟨rfl, hX⟩
    exact ⟨_, rfl, .inl ⟨rfl, rfl⟩, hX⟩
end Go.Proofs.YtfpfgbhdehbggaaGreatDoor
namespace Go.Proofs.YtfpfgbhdehbggaaGreatDoor
set_option maxRecDepth 20000
open Go.RowKit Go.BigFrame
structure Hd where
  g : BitVec 64
  se : Int
  sl : Int
  jo : Int
  sg : Int
  ti : Int
  me : Int
  la : Int
  nm : Nat → BitVec 8
def hdv (h : Hd) : Nat → Value := fun j => if j = 0 then .int .u64 (h.g.toNat : Int) else if j = 1 then .int .i64 h.se else if j = 2 then .int .i64 h.sl else if j = 3 then .int .i64 h.jo else if j = 4 then .int .i64 h.sg else if j = 5 then .int .i64 h.ti else if j = 6 then .int .i64 h.me else if j = 7 then .int .i64 h.la else .int .u8 ((h.nm (j - 8)).toNat : Int)
def pav (ti me la : Int) : Nat → Value := fun j => if j = 0 then .int .i64 ti else if j = 1 then .int .i64 me else .int .i64 la
def okP (ti me la : Int) : Prop := (1 ≤ ti ∧ ti ≤ 8) ∧ (1 ≤ la ∧ la ≤ 4) ∧ (8 * la ≤ me ∧ me ≤ 256)
set_option maxRecDepth 20000 in
set_option maxHeartbeats 2000000 in
theorem acheck (ti me la : Int) (w : World) (R : Int) (hR : Hid ((okP ti me la → R = 0) ∧ (¬ okP ti me la → R = 80))) :
    Calls Tryz.prog 77 #[.agg (row 3 (pav ti me la)).toArray] w fun e w' => e = .returned (.int .i64 R) ∧ Ext w w' := by
  have H0 : Hid (RowAt w.heap.size 3 (pav ti me la) (w.alloc (.cells (row 3 (pav ti me la)).toArray 51))) := RowAt.new w 3 _ 51
  have hE0 : Hid (Ext w (w.alloc (.cells (row 3 (pav ti me la)).toArray 51))) := (Below.refl _ _).alloc (Nat.le_refl _) _
  have hno : Hid (¬ okP ti me la → R = 80) := hR.out.2
  have hyes : Hid (okP ti me la → R = 0) := hR.out.1
  clear hR
  go_enter Tryz.func77, Tryz.ntmps77
  go_upto_region 1 with (fail)
  generalize w.alloc (.cells (row 3 (pav ti me la)).toArray 51) = w1 at *
  obtain ⟨c, hc⟩ : ∃ c, c = w.heap.size := ⟨_, rfl⟩
  rw [← hc] at H0 ⊢
  clear hc
  have e0 : w1.cell? ⟨c, 0, none⟩ = some (.int .i64 ti) := H0.out.1 0 (by decide)
  have e1 : w1.cell? ⟨c, 1, none⟩ = some (.int .i64 me) := H0.out.1 1 (by decide)
  have e2 : w1.cell? ⟨c, 2, none⟩ = some (.int .i64 la) := H0.out.1 2 (by decide)
  by_cases c1 : 1 ≤ ti
  · by_cases c2 : ti ≤ 8
    · by_cases c3 : 1 ≤ la
      · by_cases c4 : la ≤ 4
        · have hm : IntKind.i64.wrap (8 * la) = 8 * la := by rw [IntKind.wrap_i64]; omega
          by_cases c5 : 8 * la ≤ me
          · by_cases c6 : me ≤ 256
            · have hf : Hid (R = 0) := hideit (hyes.out ⟨⟨c1, c2⟩, ⟨c3, c4⟩, ⟨c5, c6⟩⟩)
              go_wp2
              go_ret
              exact ⟨ret_int hf.out.symm, hE0.out⟩
            · have hf : Hid (R = 80) := hideit (hno.out fun hh => c6 hh.2.2.2)
              go_wp2
              go_ret
              exact ⟨ret_int hf.out.symm, hE0.out⟩
          · have hf : Hid (R = 80) := hideit (hno.out fun hh => c5 hh.2.2.1)
            go_wp2
            go_ret
            exact ⟨ret_int hf.out.symm, hE0.out⟩
        · have hf : Hid (R = 80) := hideit (hno.out fun hh => c4 hh.2.1.2)
          go_wp2
          all_goals (go_ret; exact ⟨ret_int hf.out.symm, hE0.out⟩)
      · have hf : Hid (R = 80) := hideit (hno.out fun hh => c3 hh.2.1.1)
        go_wp2
        all_goals (go_ret; exact ⟨ret_int hf.out.symm, hE0.out⟩)
    · have hf : Hid (R = 80) := hideit (hno.out fun hh => c2 hh.1.2)
      go_wp2
      all_goals (go_ret; exact ⟨ret_int hf.out.symm, hE0.out⟩)
  · have hf : Hid (R = 80) := hideit (hno.out fun hh => c1 hh.1.1)
    go_wp2
    all_goals (go_ret; exact ⟨ret_int hf.out.symm, hE0.out⟩)
def inB3 (x a b : Int) : Bool := decide (a ≤ x) && decide (x ≤ b)
theorem within_any (x a b : Int) (w : World) : Calls Tryz.prog 75 #[.int .i64 x, .int .i64 a, .int .i64 b] w fun e w' => e = .returned (.bool (inB3 x a b)) ∧ w' = w := by
  unfold inB3
  by_cases c1 : a ≤ x <;> by_cases c2 : x ≤ b <;> (go_enter Tryz.func75, Tryz.ntmps75; go_wp2; go_ret; exact ⟨by simp [c1, c2], rfl⟩)
theorem above_any (x y : BitVec 64) (w : World) : Calls Tryz.prog 76 #[.int .u64 (x.toNat : Int), .int .u64 (y.toNat : Int)] w fun e w' => e = .returned (.bool (decide (y.toNat < x.toNat))) ∧ w' = w := by
  go_enter Tryz.func76, Tryz.ntmps76
  go_wp2
  go_ret
  exact ⟨by simp, rfl⟩
end Go.Proofs.YtfpfgbhdehbggaaGreatDoor
