/-
  Records, the program's and the document's.
-/
import Derived.Test.YtgjabfjkokpkiaaDoorQ1
import Derived.Test.YtgjabfjkokpkiaaDoorQ40
namespace Go.Proofs.YtgjabfjkokpkiaaDoor
open Go.RowKit Go.BigFrame
set_option linter.unusedVariables false
set_option maxRecDepth 20000
theorem eql23 (f g : Nat → BitVec 8) (r : Bool) (hr : r = true ↔ ∀ j, j < 64 → f j = g j) (w : World) : (binOp .eql 23 (.agg (row 64 (yv f)).toArray) (.agg (row 64 (yv g)).toArray)).run Tryd.prog w = .ok (.bool r) w := by
  have e := equalIn_row (P := Tryd.prog) 9998 23 5 64 .u8 Tryd.underlying23 Tryd.underlying5 Tryd.sizeOf5 (fun j => ((f j).toNat : Int)) (fun j => ((g j).toNat : Int)) w
  have e2 : ((List.range 64).all fun j => ((f j).toNat : Int) == ((g j).toNat : Int)) = r := by rw [Bool.eq_iff_iff, hr, all_iff, decide_eq_true_iff]
  rw [e2] at e
  rw [run_eql_struct]
  show ((Op.equalIn (9998 + 2) 23 (.agg (row 64 fun j => .int .u8 ((f j).toNat : Int)).toArray) (.agg (row 64 fun j => .int .u8 ((g j).toNat : Int)).toArray)).run Tryd.prog w).andThen _ = _
  rw [e]
  rfl
theorem wiL_ok {l : Nat} {n : Int} (h : tgE l n = 0) : tgE (wiL l n) n = 0 := by
  obtain ⟨h1, h2⟩ := tgE_ok h
  unfold wiL
  rw [if_pos h]
  exact tgE_good (by omega) rfl
theorem re_back {l : Nat} {n : Int} (T R : Nat → BitVec 8) (h : tgE l n = 0) (j : Nat) (hj : j < 64) : reF (wiF T n.toNat R) (wiL l n) n j = R j := by
  unfold reF
  rw [if_pos (wiL_ok h)]
  exact rec_wi T n.toNat R j hj
set_option maxRecDepth 20000 in
set_option maxHeartbeats 4000000 in
theorem records_any (v : Value) (l : Nat) (T : Nat → BitVec 8) (n : Int) (R : Nat → BitVec 8) (q : Int) (w : World) (hV : BV v l T w) (hl : l ≤ 140737488351232) (hC : TabC w) : Calls Tryd.prog 3 #[v, .int .i64 n, .agg (row 64 (yv R)).toArray, .int .i64 q] w fun e w' => e = .returned (.bool true) ∧ Ext w w' := by
  obtain ⟨o, k, rfl⟩ := hV.form
  have hE := hideit (Ext.refl w)
  replace hV := hideit hV
  go_enter Tryd.func3, Tryd.ntmps3
  go_upto_region 0 with (fail)
  refine wp_region_lit ?_
  have A0 := hideit (RowAt.new w 64 (yv R) 23)
  have XB : Ext w (w.alloc (.cells (row 64 (yv R)).toArray 23)) := (Below.refl _ _).alloc (Nat.le_refl _) _
  have L0 := hideit (hV.out.ext XB)
  have AE := hideit (Ext.trans hE.out (XB))
  have AB := hideit (hE.out.size)
  clear XB
  refine wpList_to rfl (.pointer (some ⟨w.heap.size, 0, none⟩)) (w.alloc (.cells (row 64 (yv R)).toArray 23)) (by simp [go_sem]) ?_
  simp only [zp0, zp1, zp2, zp3]
  generalize w.alloc (.cells (row 64 (yv R)).toArray 23) = x1 at A0 L0 AE ⊢
  obtain ⟨c6, ec6⟩ : ∃ b, b = w.heap.size := ⟨_, rfl⟩
  have ABc6 : Hid (w.heap.size ≤ c6) := by rw [ec6]; exact AB.out
  clear AB
  rw [← ec6] at A0  ⊢
  clear ec6
  have Hc6 := A0
  clear A0
  replace hV := L0
  clear L0
  replace hE := AE
  clear AE
  refine xm [some (.bool false)] (by kernel_rfl) (by simp [xr, go_sem]) ?_
  simp only [xw, p0, p1, p2, p3]
  go_upto_region 1 with (fail)
  refine wp_region_lit ?_
  have hG := hideit (GB.empty x1 (Ext.refl x1) T)
  have XB : Ext x1 (x1.alloc (.cells #[] 5)) := (Below.refl _ _).alloc (Nat.le_refl _) _
  have hVa := hideit (hV.out.ext XB)
  refine wpList_to rfl (.slice (some ⟨x1.heap.size, 0, none⟩) 0 0) (x1.alloc (.cells #[] 5)) (by simp [go_sem]) ?_
  simp only [zp0, zp1, zp2, zp3]
  refine xm [some (.slice o l k)] (by kernel_rfl) (by simp [xr, go_sem]) ?_
  simp only [xw, p0, p1, p2, p3]
  refine wpList_gb rfl (.tmp 19) (.tmp 20) rfl rfl hG.out (.slice o l k) l T rfl hVa.out (by omega) ?_
  intro v9 X9 hG9
  simp only [zp0, zp1, zp2, zp3]
  obtain ⟨o9, k9, rfl⟩ := hG9.form
  rw [Nat.zero_add] at hG9 ⊢
  obtain ⟨hO9, hX9⟩ := hG9
  have hW := hideit (hO9.bv.congr (g := T) fun j hj => by unfold catF; rw [if_neg (by omega), Nat.sub_zero])
  replace Hc6 := hideit (Hc6.out.carry hX9)
  replace hV := hideit (hV.out.ext hX9)
  replace hE := hideit (Ext.trans hE.out (hX9))
  clear hO9 hX9 hG hVa XB
  refine xm [some (.slice o9 l k9)] (by kernel_rfl) (by simp [xr, go_sem]) ?_
  simp only [xw, p0, p1, p2, p3]
  go_upto_region 2 with (fail)
  refine wp_region_lit ?_
  refine xm [some (.slice o9 l k9), some (.int .i64 (n))] (by kernel_rfl) (by simp [xr, go_sem]) ?_
  simp only [xw, p0, p1, p2, p3]
  refine wpList_run rfl (.agg (row 64 (yv R)).toArray) (xload 23 (.tmp 6) rfl c6 0 64 _ rfl Hc6.out.range Tryd.underlying23 rfl inf23) ?_
  simp only [zp0, zp1, zp2, zp3]
  refine wpList_call rfl (by simp [go_sem]) ((with_any (.slice o9 l k9) l T R n X9 hW.out).mono ?_)
  rintro e y2 ⟨ua, rfl, hua, hXua⟩
  refine ⟨_, rfl, ?_⟩
  simp only [zp0, zp1, zp2, zp3]
  replace Hc6 := hideit (Hc6.out.carry hXua)
  replace hV := hideit (hV.out.ext hXua)
  replace hW := hideit (hW.out.ext hXua)
  replace hE := hideit (Ext.trans hE.out (hXua))
  obtain ⟨oua, kua, rfl⟩ := hua.form
  replace hua := hideit hua
  clear hXua
  refine xm [some (.tuple #[.slice oua (wiL l n) kua, .int .i64 (tgE l n)]), some (.slice oua (wiL l n) kua), some (.int .i64 (tgE l n)), some (.slice oua (wiL l n) kua), some (.int .i64 (tgE l n))] (by kernel_rfl) (by simp [xr, go_sem]) ?_
  simp only [xw, p0, p1, p2, p3]
  go_upto_region 3 with (fail)
  refine wp_region_lit ?_
  refine xm [some (.slice o l k), some (.int .i64 (n))] (by kernel_rfl) (by simp [xr, go_sem]) ?_
  simp only [xw, p0, p1, p2, p3]
  refine wpList_run rfl (.agg (row 64 (yv R)).toArray) (xload 23 (.tmp 6) rfl c6 0 64 _ rfl Hc6.out.range Tryd.underlying23 rfl inf23) ?_
  simp only [zp0, zp1, zp2, zp3]
  refine wpList_call rfl (by simp [go_sem]) ((rwith_any (.slice o l k) l T R n y2 hV.out).mono ?_)
  rintro e y3 ⟨ub, rfl, hub, hXub⟩
  refine ⟨_, rfl, ?_⟩
  simp only [zp0, zp1, zp2, zp3]
  replace Hc6 := hideit (Hc6.out.carry hXub)
  replace hV := hideit (hV.out.ext hXub)
  replace hW := hideit (hW.out.ext hXub)
  replace hua := hideit (hua.out.ext hXub)
  replace hE := hideit (Ext.trans hE.out (hXub))
  obtain ⟨oub, kub, rfl⟩ := hub.form
  replace hub := hideit hub
  clear hXub
  refine xm [some (.tuple #[.slice oub (wiL l n) kub, .int .i64 (tgE l n)]), some (.slice oub (wiL l n) kub), some (.int .i64 (tgE l n)), some (.slice oub (wiL l n) kub), some (.int .i64 (tgE l n))] (by kernel_rfl) (by simp [xr, go_sem]) ?_
  simp only [xw, p0, p1, p2, p3]
  obtain ⟨V, hVV⟩ : ∃ V, V = y3 := ⟨_, rfl⟩
  rw [← hVV] at hV hW hua hub hE Hc6 ⊢
  clear hVV
  have hF := hideit (Ext.refl V)
  go_upto_region 4 with (fail)
  refine wp_region_lit ?_
  refine xm [some (.slice o9 l k9), some (.int .i64 (q))] (by kernel_rfl) (by simp [xr, go_sem]) ?_
  simp only [xw, p0, p1, p2, p3]
  refine wpList_call rfl (by simp [go_sem]) ((rec_any (.slice o9 l k9) l (T) q V (hW.out.ext hF.out)).mono ?_)
  rintro e y4 ⟨rfl, hX5⟩
  refine ⟨_, rfl, ?_⟩
  simp only [zp0, zp1, zp2, zp3]
  replace Hc6 := hideit (Hc6.out.carry hX5)
  replace hF := hideit (Ext.trans hF.out (hX5))
  clear hX5
  refine xm [some (.tuple #[.agg (row 64 (yv (reF T l q))).toArray, .int .i64 (tgE l q)]), some (.agg (row 64 (yv (reF T l q))).toArray), some (.int .i64 (tgE l q))] (by kernel_rfl) (by simp [xr, go_sem]) ?_
  simp only [xw, p0, p1, p2, p3]
  have A0 := hideit (RowAt.new y4 64 (yv fun _ => 0#8) 23)
  have A1 := hideit (Hc6.out.alloc (.cells (row 64 (yv fun _ => 0#8)).toArray 23))
  have AE := hideit (Below.alloc hF.out (Below.size hF.out) (.cells (row 64 (yv fun _ => 0#8)).toArray 23))
  have AB := hideit (Below.size hF.out)
  have D0 : Hid (c6 ≠ y4.heap.size) := Nat.ne_of_lt Hc6.out.2.2
  refine wpList_to rfl (.pointer (some ⟨y4.heap.size, 0, none⟩)) (y4.alloc (.cells (row 64 (yv fun _ => 0#8)).toArray 23)) (xalloc 23 (row 64 (yv fun _ => 0#8)).toArray rfl (zero23 y4)) ?_
  simp only [zp0, zp1, zp2, zp3]
  generalize y4.alloc (.cells (row 64 (yv fun _ => 0#8)).toArray 23) = x7 at A0 A1 AE ⊢
  obtain ⟨z6, ez6⟩ : ∃ b, b = y4.heap.size := ⟨_, rfl⟩
  replace AB : Hid (V.heap.size ≤ z6) := by rw [ez6]; exact AB.out
  rw [← ez6] at A0 D0 ⊢
  clear ez6
  have Hz6 := A0
  clear A0
  replace Hc6 := A1
  clear A1
  replace hF := AE
  clear AE
  have ABz6 := AB
  clear AB
  have Dz6_0 := D0
  clear D0
  have N0 := hideit (Hz6.out.cells (g' := yv (reF T l q)))
  have N1 := hideit (Hc6.out.cellsOther (Ne.symm (Dz6_0.out)) (row 64 (yv (reF T l q))) 0)
  have NE := hideit (below_setCells z6 (ABz6.out) (row 64 (yv (reF T l q))) 0 _ hF.out)
  refine xst rfl (x7.setCells z6 0 (row 64 (yv (reF T l q)))) (xstore 23 (.tmp 14) (.tmp 40) rfl z6 64 _ (yv (reF T l q)) rfl rfl Hz6.out inf23 (fun j _ => rfl)) ?_
  simp only [Act.put]
  generalize x7.setCells z6 0 (row 64 (yv (reF T l q))) = x8 at N0 N1 NE ⊢
  replace Hz6 := N0
  replace Hc6 := N1
  replace hF := NE
  clear N0 N1 NE
  refine xm [some (.int .i64 (tgE l q))] (by kernel_rfl) (by simp [xr, go_sem]) ?_
  simp only [xw, p0, p1, p2, p3]
  go_upto_region 5 with (fail)
  refine wp_region_lit ?_
  refine xm [some (.slice o l k), some (.int .i64 (q))] (by kernel_rfl) (by simp [xr, go_sem]) ?_
  simp only [xw, p0, p1, p2, p3]
  refine wpList_call rfl (by simp [go_sem]) ((rrec_any (.slice o l k) l (T) q x8 (hV.out.ext hF.out)).mono ?_)
  rintro e y9 ⟨rfl, hX10⟩
  refine ⟨_, rfl, ?_⟩
  simp only [zp0, zp1, zp2, zp3]
  replace Hc6 := hideit (Hc6.out.carry hX10)
  replace Hz6 := hideit (Hz6.out.carry hX10)
  replace hF := hideit (Ext.trans hF.out (hX10))
  clear hX10
  refine xm [some (.tuple #[.agg (row 64 (yv (reF T l q))).toArray, .int .i64 (tgE l q)]), some (.agg (row 64 (yv (reF T l q))).toArray), some (.int .i64 (tgE l q))] (by kernel_rfl) (by simp [xr, go_sem]) ?_
  simp only [xw, p0, p1, p2, p3]
  have A0 := hideit (RowAt.new y9 64 (yv fun _ => 0#8) 23)
  have A1 := hideit (Hc6.out.alloc (.cells (row 64 (yv fun _ => 0#8)).toArray 23))
  have A2 := hideit (Hz6.out.alloc (.cells (row 64 (yv fun _ => 0#8)).toArray 23))
  have AE := hideit (Below.alloc hF.out (Below.size hF.out) (.cells (row 64 (yv fun _ => 0#8)).toArray 23))
  have AB := hideit (Below.size hF.out)
  have D0 : Hid (c6 ≠ y9.heap.size) := Nat.ne_of_lt Hc6.out.2.2
  have D1 : Hid (z6 ≠ y9.heap.size) := Nat.ne_of_lt Hz6.out.2.2
  refine wpList_to rfl (.pointer (some ⟨y9.heap.size, 0, none⟩)) (y9.alloc (.cells (row 64 (yv fun _ => 0#8)).toArray 23)) (xalloc 23 (row 64 (yv fun _ => 0#8)).toArray rfl (zero23 y9)) ?_
  simp only [zp0, zp1, zp2, zp3]
  generalize y9.alloc (.cells (row 64 (yv fun _ => 0#8)).toArray 23) = x12 at A0 A1 A2 AE ⊢
  obtain ⟨z11, ez11⟩ : ∃ b, b = y9.heap.size := ⟨_, rfl⟩
  replace AB : Hid (V.heap.size ≤ z11) := by rw [ez11]; exact AB.out
  rw [← ez11] at A0 D0 D1 ⊢
  clear ez11
  have Hz11 := A0
  clear A0
  replace Hc6 := A1
  clear A1
  replace Hz6 := A2
  clear A2
  replace hF := AE
  clear AE
  have ABz11 := AB
  clear AB
  have Dz11_0 := D0
  clear D0
  have Dz11_1 := D1
  clear D1
  have N0 := hideit (Hz11.out.cells (g' := yv (reF T l q)))
  have N1 := hideit (Hc6.out.cellsOther (Ne.symm (Dz11_0.out)) (row 64 (yv (reF T l q))) 0)
  have N2 := hideit (Hz6.out.cellsOther (Ne.symm (Dz11_1.out)) (row 64 (yv (reF T l q))) 0)
  have NE := hideit (below_setCells z11 (ABz11.out) (row 64 (yv (reF T l q))) 0 _ hF.out)
  refine xst rfl (x12.setCells z11 0 (row 64 (yv (reF T l q)))) (xstore 23 (.tmp 16) (.tmp 46) rfl z11 64 _ (yv (reF T l q)) rfl rfl Hz11.out inf23 (fun j _ => rfl)) ?_
  simp only [Act.put]
  generalize x12.setCells z11 0 (row 64 (yv (reF T l q))) = x13 at N0 N1 N2 NE ⊢
  replace Hz11 := N0
  replace Hc6 := N1
  replace Hz6 := N2
  replace hF := NE
  clear N0 N1 N2 NE
  refine xm [some (.int .i64 (tgE l q))] (by kernel_rfl) (by simp [xr, go_sem]) ?_
  simp only [xw, p0, p1, p2, p3]
  go_upto_region 6 with (fail)
  refine wp_region_lit ?_
  refine wpList_call rfl (by simp [go_sem]) ((lives_any x13 (hC.ext (Ext.trans hE.out hF.out))).mono ?_)
  rintro e y14 ⟨rfl, hX15⟩
  refine ⟨_, rfl, ?_⟩
  simp only [zp0, zp1, zp2, zp3]
  replace Hc6 := hideit (Hc6.out.carry hX15)
  replace Hz6 := hideit (Hz6.out.carry hX15)
  replace Hz11 := hideit (Hz11.out.carry hX15)
  replace hF := hideit (Ext.trans hF.out (hX15))
  clear hX15
  refine xm [some (.bool false), some (.bool false), some (.slice oua (wiL l n) kua)] (by kernel_rfl) (by simp [xr, go_sem]) ?_
  simp only [xw, p0, p1, p2, p3]
  have cv16 := convS (.slice oua (wiL l n) kua) (wiL l n) (wiF T n.toNat R) y14 (hua.out.ext hF.out)
  refine xm [some (.string (bS (wiL l n) (wiF T n.toNat R))), some (.slice oub (wiL l n) kub)] (by kernel_rfl) (by simp [xr, go_sem, cv16]) ?_
  simp only [xw, p0, p1, p2, p3]
  clear cv16
  have cv17 := convS (.slice oub (wiL l n) kub) (wiL l n) (wiF T n.toNat R) y14 (hub.out.ext hF.out)
  refine xm [some (.string (bS (wiL l n) (wiF T n.toNat R))), some (.bool false), some (.bool false), some (.bool false), some (.int .i64 (tgE l n)), some (.int .i64 (tgE l n)), some (.bool false), some (.bool false), some (.bool false)] (by kernel_rfl) (by simp [xr, go_sem, cv17]) ?_
  simp only [xw, p0, p1, p2, p3]
  clear cv17
  refine wpList_runW rfl (.agg (row 64 (yv (reF T l q))).toArray) (xload 23 (.tmp 14) rfl z6 0 64 _ rfl Hz6.out.range Tryd.underlying23 rfl inf23) ?_
  simp only [zp0, zp1, zp2, zp3]
  refine wpList_runW rfl (.agg (row 64 (yv (reF T l q))).toArray) (xload 23 (.tmp 16) rfl z11 0 64 _ rfl Hz11.out.range Tryd.underlying23 rfl inf23) ?_
  simp only [zp0, zp1, zp2, zp3]
  refine wpList_runW rfl (.bool false) (xcmp .neq 23 23 (.tmp 63) (.tmp 64) rfl _ _ rfl rfl eqG23 false (neq23 (reF T l q) (reF T l q) true ⟨fun _ _ _ => rfl, fun _ => rfl⟩ _)) ?_
  simp only [zp0, zp1, zp2, zp3]
  refine xm [some (.bool false), some (.bool false), some (.int .i64 (tgE l q)), some (.int .i64 (tgE l q)), some (.bool false), some (.bool false), some (.bool false), some (.slice o9 l k9)] (by kernel_rfl) (by simp [xr, go_sem]) ?_
  simp only [xw, p0, p1, p2, p3]
  have cv18 := convS (.slice o9 l k9) l (T) y14 (hW.out.ext hF.out)
  refine xm [some (.string (bS l (T))), some (.slice o l k)] (by kernel_rfl) (by simp [xr, go_sem, cv18]) ?_
  simp only [xw, p0, p1, p2, p3]
  clear cv18
  have cv19 := convS (.slice o l k) l (T) y14 (hV.out.ext hF.out)
  refine xm [some (.string (bS l (T))), some (.bool false), some (.bool false)] (by kernel_rfl) (by simp [xr, go_sem, cv19]) ?_
  simp only [xw, p0, p1, p2, p3]
  clear cv19
  by_cases hg9 : tgE l n = 0
  · have hg := hideit hg9
    have hg2 := hideit (wiL_ok hg9)
    clear hg9
    go_upto_region 8 with (fail)
    refine wp_region_lit ?_
    refine xm [some (.int .i64 (tgE l n)), some (.bool false)] (by kernel_rfl) (by simp [xr, go_sem, hg.out]) ?_
    simp only [xw, p0, p1, p2, p3]
    go_upto_region 10 with (fail)
    refine wp_region_lit ?_
    refine xm [some (.slice oua (wiL l n) kua), some (.int .i64 (n))] (by kernel_rfl) (by simp [xr, go_sem]) ?_
    simp only [xw, p0, p1, p2, p3]
    refine wpList_call rfl (by simp [go_sem]) ((rec_any (.slice oua (wiL l n) kua) (wiL l n) (wiF T n.toNat R) n y14 (hua.out.ext hF.out)).mono ?_)
    rintro e y20 ⟨rfl, hX21⟩
    refine ⟨_, rfl, ?_⟩
    simp only [zp0, zp1, zp2, zp3]
    replace Hc6 := hideit (Hc6.out.carry hX21)
    replace Hz6 := hideit (Hz6.out.carry hX21)
    replace Hz11 := hideit (Hz11.out.carry hX21)
    replace hF := hideit (Ext.trans hF.out (hX21))
    clear hX21
    refine xm [some (.tuple #[.agg (row 64 (yv (reF (wiF T n.toNat R) (wiL l n) n))).toArray, .int .i64 (tgE (wiL l n) n)]), some (.agg (row 64 (yv (reF (wiF T n.toNat R) (wiL l n) n))).toArray), some (.int .i64 (tgE (wiL l n) n))] (by kernel_rfl) (by simp [xr, go_sem]) ?_
    simp only [xw, p0, p1, p2, p3]
    have A0 := hideit (RowAt.new y20 64 (yv fun _ => 0#8) 23)
    have A1 := hideit (Hc6.out.alloc (.cells (row 64 (yv fun _ => 0#8)).toArray 23))
    have A2 := hideit (Hz6.out.alloc (.cells (row 64 (yv fun _ => 0#8)).toArray 23))
    have A3 := hideit (Hz11.out.alloc (.cells (row 64 (yv fun _ => 0#8)).toArray 23))
    have AE := hideit (Below.alloc hF.out (Below.size hF.out) (.cells (row 64 (yv fun _ => 0#8)).toArray 23))
    have AB := hideit (Below.size hF.out)
    have D0 : Hid (c6 ≠ y20.heap.size) := Nat.ne_of_lt Hc6.out.2.2
    have D1 : Hid (z6 ≠ y20.heap.size) := Nat.ne_of_lt Hz6.out.2.2
    have D2 : Hid (z11 ≠ y20.heap.size) := Nat.ne_of_lt Hz11.out.2.2
    refine wpList_to rfl (.pointer (some ⟨y20.heap.size, 0, none⟩)) (y20.alloc (.cells (row 64 (yv fun _ => 0#8)).toArray 23)) (xalloc 23 (row 64 (yv fun _ => 0#8)).toArray rfl (zero23 y20)) ?_
    simp only [zp0, zp1, zp2, zp3]
    generalize y20.alloc (.cells (row 64 (yv fun _ => 0#8)).toArray 23) = x23 at A0 A1 A2 A3 AE ⊢
    obtain ⟨z22, ez22⟩ : ∃ b, b = y20.heap.size := ⟨_, rfl⟩
    replace AB : Hid (V.heap.size ≤ z22) := by rw [ez22]; exact AB.out
    rw [← ez22] at A0 D0 D1 D2 ⊢
    clear ez22
    have Hz22 := A0
    clear A0
    replace Hc6 := A1
    clear A1
    replace Hz6 := A2
    clear A2
    replace Hz11 := A3
    clear A3
    replace hF := AE
    clear AE
    have ABz22 := AB
    clear AB
    have Dz22_0 := D0
    clear D0
    have Dz22_1 := D1
    clear D1
    have Dz22_2 := D2
    clear D2
    have N0 := hideit (Hz22.out.cells (g' := yv (reF (wiF T n.toNat R) (wiL l n) n)))
    have N1 := hideit (Hc6.out.cellsOther (Ne.symm (Dz22_0.out)) (row 64 (yv (reF (wiF T n.toNat R) (wiL l n) n))) 0)
    have N2 := hideit (Hz6.out.cellsOther (Ne.symm (Dz22_1.out)) (row 64 (yv (reF (wiF T n.toNat R) (wiL l n) n))) 0)
    have N3 := hideit (Hz11.out.cellsOther (Ne.symm (Dz22_2.out)) (row 64 (yv (reF (wiF T n.toNat R) (wiL l n) n))) 0)
    have NE := hideit (below_setCells z22 (ABz22.out) (row 64 (yv (reF (wiF T n.toNat R) (wiL l n) n))) 0 _ hF.out)
    refine xst rfl (x23.setCells z22 0 (row 64 (yv (reF (wiF T n.toNat R) (wiL l n) n)))) (xstore 23 (.tmp 18) (.tmp 85) rfl z22 64 _ (yv (reF (wiF T n.toNat R) (wiL l n) n)) rfl rfl Hz22.out inf23 (fun j _ => rfl)) ?_
    simp only [Act.put]
    generalize x23.setCells z22 0 (row 64 (yv (reF (wiF T n.toNat R) (wiL l n) n))) = x24 at N0 N1 N2 N3 NE ⊢
    replace Hz22 := N0
    replace Hc6 := N1
    replace Hz6 := N2
    replace Hz11 := N3
    replace hF := NE
    clear N0 N1 N2 N3 NE
    refine xm [some (.int .i64 (tgE (wiL l n) n))] (by kernel_rfl) (by simp [xr, go_sem]) ?_
    simp only [xw, p0, p1, p2, p3]
    go_upto_region 11 with (fail)
    refine wp_region_lit ?_
    refine xm [some (.int .i64 (tgE (wiL l n) n)), some (.bool true), some (.bool true)] (by kernel_rfl) (by simp [xr, go_sem, hg2.out]) ?_
    simp only [xw, p0, p1, p2, p3]
    refine wpList_runW rfl (.agg (row 64 (yv (reF (wiF T n.toNat R) (wiL l n) n))).toArray) (xload 23 (.tmp 18) rfl z22 0 64 _ rfl Hz22.out.range Tryd.underlying23 rfl inf23) ?_
    simp only [zp0, zp1, zp2, zp3]
    refine wpList_runW rfl (.agg (row 64 (yv R)).toArray) (xload 23 (.tmp 6) rfl c6 0 64 _ rfl Hc6.out.range Tryd.underlying23 rfl inf23) ?_
    simp only [zp0, zp1, zp2, zp3]
    refine wpList_runW rfl (.bool true) (xcmp .eql 23 23 (.tmp 90) (.tmp 91) rfl _ _ rfl rfl eqG23 true (eql23 (reF (wiF T n.toNat R) (wiL l n) n) R true ⟨fun _ => re_back T R hg.out, fun _ => rfl⟩ _)) ?_
    simp only [zp0, zp1, zp2, zp3]
    refine xm [some (.bool true), some (.bool true)] (by kernel_rfl) (by simp [xr, go_sem]) ?_
    simp only [xw, p0, p1, p2, p3]
    go_wp2
    go_ret
    exact ⟨rfl, Ext.trans hE.out hF.out⟩
  · have hg := hideit hg9
    clear hg9
    go_upto_region 8 with (fail)
    refine wp_region_lit ?_
    refine xm [some (.int .i64 (tgE l n)), some (.bool true)] (by kernel_rfl) (by simp [xr, go_sem, hg.out]) ?_
    simp only [xw, p0, p1, p2, p3]
    go_upto_region 9 with (fail)
    refine wp_region_lit ?_
    refine xm [some (.bool true)] (by kernel_rfl) (by simp [xr, go_sem]) ?_
    simp only [xw, p0, p1, p2, p3]
    go_wp2
    go_ret
    exact ⟨rfl, Ext.trans hE.out hF.out⟩
end Go.Proofs.YtgjabfjkokpkiaaDoor
