/-
  Of a nil model.
-/
import Derived.Test.YtcipkfalnjgghaaMd17
namespace Go.Proofs.Ytcipkfalnjgghaa
open Go.RowKit Go.BigFrame Go.Maps
set_option linter.unusedVariables false
def opV (k n : Int) (o1 : Option Addr) (l1 c1 : Nat) (o2 : Option Addr) (l2 c2 : Nat) (ko : Option Addr) (kl kc : Nat) : Nat → Value := fun j => if j = 0 then .int .i64 k else if j = 1 then .int .i64 n else if j = 2 then .slice o1 l1 c1 else if j = 3 then .slice o2 l2 c2 else .slice ko kl kc
theorem opv_row (k n : Int) (o1 : Option Addr) (l1 c1 : Nat) (o2 : Option Addr) (l2 c2 : Nat) (ko : Option Addr) (kl kc : Nat) : #[.int .i64 (k), .int .i64 (n), .slice o1 l1 c1, .slice o2 l2 c2, .slice ko kl kc] = (row 5 (opV k n o1 l1 c1 o2 l2 c2 ko kl kc)).toArray := rfl
set_option maxRecDepth 20000 in
set_option maxHeartbeats 4000000 in
theorem nobody_any (k n : Int) (o1 : Option Addr) (l1 c1 : Nat) (o2 : Option Addr) (l2 c2 : Nat) (ko : Option Addr) (kl kc : Nat) (w : World) : Calls Try.prog 3 #[.agg #[.int .i64 (k), .int .i64 (n), .slice o1 l1 c1, .slice o2 l2 c2, .slice ko kl kc]] w fun e w' => e = .returned (.bool true) ∧ Ext w w' := by
  rw [opv_row]
  have hE := hideit (Ext.refl w)
  go_enter Try.func3, Try.ntmps3
  go_upto_region 0 with (fail)
  refine wp_region_lit ?_
  have A0 := hideit (RowAt.new w 5 (opV k n o1 l1 c1 o2 l2 c2 ko kl kc) 25)
  have XB : Ext w (w.alloc (.cells (row 5 (opV k n o1 l1 c1 o2 l2 c2 ko kl kc)).toArray 25)) := (Below.refl _ _).alloc (Nat.le_refl _) _
  have AE := hideit (Ext.trans hE.out (XB))
  have AB := hideit (hE.out.size)
  clear XB
  refine wpList_to rfl (.pointer (some ⟨w.heap.size, 0, none⟩)) (w.alloc (.cells (row 5 (opV k n o1 l1 c1 o2 l2 c2 ko kl kc)).toArray 25)) (by simp [go_sem]) ?_
  simp only [Act.put, List.setIfInBounds_toArray, List.set_cons_zero, List.set_cons_succ]
  generalize w.alloc (.cells (row 5 (opV k n o1 l1 c1 o2 l2 c2 ko kl kc)).toArray 25) = x1 at A0 AE ⊢
  obtain ⟨bo, ebo⟩ : ∃ b, b = w.heap.size := ⟨_, rfl⟩
  have ABbo : Hid (w.heap.size ≤ bo) := by rw [ebo]; exact AB.out
  clear AB
  rw [← ebo] at A0  ⊢
  clear ebo
  have Hbo := A0
  clear A0
  replace hE := AE
  clear AE
  refine xm [some (.bool false)] (by kernel_rfl) (by simp [xr, go_sem]) ?_
  simp only [xw, p0, p1, p2, p3]
  go_upto_region 1 with (fail)
  refine wp_region_lit ?_
  refine xm [some (.pointer none)] (by kernel_rfl) (by simp [xr, go_sem]) ?_
  simp only [xw, p0, p1, p2, p3]
  go_upto_region 2 with (fail)
  refine wp_region_lit ?_
  have m2 : x1.cell? ⟨bo, 1, none⟩ = some (.int .i64 (n)) := Hbo.out.1 1 (by decide)
  refine xm [some (.pointer none), some (.pointer (some ⟨bo, 1, none⟩)), some (.int .i64 (n))] (by kernel_rfl) (by simp [xr, go_sem, m2]) ?_
  simp only [xw, p0, p1, p2, p3]
  clear m2
  refine wpList_call rfl (by simp [go_sem]) ((nil_read n x1).mono ?_)
  rintro e y3 ⟨rfl, hX4⟩
  refine ⟨_, rfl, ?_⟩
  simp only [Act.put, List.setIfInBounds_toArray, List.set_cons_zero, List.set_cons_succ]
  replace Hbo := hideit (Hbo.out.carry hX4)
  replace hE := hideit (Ext.trans hE.out (hX4))

  clear hX4
  refine xm [some (.tuple #[.slice none 0 0, .int .i64 6]), some (.slice none 0 0), some (.int .i64 6), some (.slice none 0 0), some (.int .i64 6)] (by kernel_rfl) (by simp [xr, go_sem]) ?_
  simp only [xw, p0, p1, p2, p3]
  go_upto_region 3 with (fail)
  refine wp_region_lit ?_
  refine xm [some (.pointer none)] (by kernel_rfl) (by simp [xr, go_sem]) ?_
  simp only [xw, p0, p1, p2, p3]
  refine wpList_call rfl (by simp [go_sem]) ((nil_step y3).mono ?_)
  rintro e y5 ⟨rfl, hX6⟩
  refine ⟨_, rfl, ?_⟩
  simp only [Act.put, List.setIfInBounds_toArray, List.set_cons_zero, List.set_cons_succ]
  replace Hbo := hideit (Hbo.out.carry hX6)
  replace hE := hideit (Ext.trans hE.out (hX6))

  clear hX6
  refine xm [some (.tuple #[.bool false, .int .i64 6]), some (.bool false), some (.int .i64 6), some (.bool false), some (.int .i64 6)] (by kernel_rfl) (by simp [xr, go_sem]) ?_
  simp only [xw, p0, p1, p2, p3]
  go_upto_region 4 with (fail)
  refine wp_region_lit ?_
  refine xm [some (.pointer none)] (by kernel_rfl) (by simp [xr, go_sem]) ?_
  simp only [xw, p0, p1, p2, p3]
  refine wpList_call rfl (by simp [go_sem]) ((nil_info y5).mono ?_)
  rintro e y7 ⟨rfl, hX8⟩
  refine ⟨_, rfl, ?_⟩
  simp only [Act.put, List.setIfInBounds_toArray, List.set_cons_zero, List.set_cons_succ]
  replace Hbo := hideit (Hbo.out.carry hX8)
  replace hE := hideit (Ext.trans hE.out (hX8))

  clear hX8
  refine xm [some (.tuple #[.agg (row 29 (ifV zH 0 (.slice none 0 0) 0 0 0#64)).toArray, .int .i64 6]), some (.agg (row 29 (ifV zH 0 (.slice none 0 0) 0 0 0#64)).toArray), some (.int .i64 6)] (by kernel_rfl) (by simp [xr, go_sem]) ?_
  simp only [xw, p0, p1, p2, p3]
  refine wpList_to rfl (.pointer (some ⟨y7.heap.size, 0, none⟩)) (y7.alloc (.cells (row 29 (ifV zH 0 (.slice none 0 0) 0 0 0#64)).toArray 40)) (xalloc 40 _ rfl (zero40 _)) ?_
  simp only [Act.put, List.setIfInBounds_toArray, List.set_cons_zero, List.set_cons_succ]
  have N0 := hideit ((RowAt.new y7 29 (ifV zH 0 (.slice none 0 0) 0 0 0#64) 40).cells (g' := ifV zH 0 (.slice none 0 0) 0 0 0#64))
  have XE : Ext y7 ((y7.alloc (.cells (row 29 (ifV zH 0 (.slice none 0 0) 0 0 0#64)).toArray 40)).setCells y7.heap.size 0 (row 29 (ifV zH 0 (.slice none 0 0) 0 0 0#64))) := below_setCells y7.heap.size (Nat.le_refl _) _ 0 _ ((Below.refl _ _).alloc (Nat.le_refl _) _)
  have Dbi_0 : Hid (bo ≠ y7.heap.size) := Nat.ne_of_lt Hbo.out.2.2
  refine xst rfl ((y7.alloc (.cells (row 29 (ifV zH 0 (.slice none 0 0) 0 0 0#64)).toArray 40)).setCells y7.heap.size 0 (row 29 (ifV zH 0 (.slice none 0 0) 0 0 0#64))) (xstore 40 (.tmp 8) (.tmp 25) rfl y7.heap.size 29 _ (ifV zH 0 (.slice none 0 0) 0 0 0#64) rfl rfl (RowAt.new y7 29 (ifV zH 0 (.slice none 0 0) 0 0 0#64) 40) infoI (fun j _ => ifv_one _ _ _ _ _ _ rfl j)) ?_
  simp only [Act.put]
  generalize (y7.alloc (.cells (row 29 (ifV zH 0 (.slice none 0 0) 0 0 0#64)).toArray 40)).setCells y7.heap.size 0 (row 29 (ifV zH 0 (.slice none 0 0) 0 0 0#64)) = x9 at N0 XE ⊢
  obtain ⟨bi, ebi⟩ : ∃ b, b = y7.heap.size := ⟨_, rfl⟩
  have ABbi : Hid (w.heap.size ≤ bi) := by rw [ebi]; exact hE.out.size
  rw [← ebi] at N0 Dbi_0 ⊢
  clear ebi
  have Hbi := N0
  clear N0
  replace Hbo := hideit (Hbo.out.carry XE)
  replace hE := hideit (Ext.trans hE.out (XE))
  clear XE
  refine xm [some (.int .i64 6)] (by kernel_rfl) (by simp [xr, go_sem]) ?_
  simp only [xw, p0, p1, p2, p3]
  go_upto_region 5 with (fail)
  refine wp_region_lit ?_
  simp only [List.append_eq, List.cons_append, List.nil_append]
  refine wpList_call rfl (by simp [go_sem]) ((lives_any x9).mono ?_)
  rintro e y10 ⟨rfl, hX11⟩
  refine ⟨_, rfl, ?_⟩
  simp only [Act.put, List.setIfInBounds_toArray, List.set_cons_zero, List.set_cons_succ]
  replace Hbo := hideit (Hbo.out.carry hX11)
  replace Hbi := hideit (Hbi.out.carry hX11)
  replace hE := hideit (Ext.trans hE.out (hX11))

  clear hX11
  refine xm [some (.bool true), some (.slice none 0 0), some (.int .i64 0), some (.bool true), some (.bool true), some (.bool true), some (.int .i64 6), some (.bool true), some (.bool true), some (.bool true), some (.bool false), some (.bool true), some (.bool true), some (.bool true), some (.int .i64 6), some (.bool true), some (.bool true), some (.bool true)] (by kernel_rfl) (by simp [xr, go_sem]) ?_
  simp only [xw, p0, p1, p2, p3]
  refine wpList_runW rfl (.agg (row 29 (ifV zH 0 (.slice none 0 0) 0 0 0#64)).toArray) (xload 40 (.tmp 8) rfl bi 0 29 _ rfl Hbi.out.range Try.underlying40 rfl infoI) ?_
  simp only [Act.put, List.setIfInBounds_toArray, List.set_cons_zero, List.set_cons_succ]
  refine wpList_runW rfl (.agg (row 29 (ifV zH 0 (.slice none 0 0) 0 0 0#64)).toArray) (xbuild 40 [] rfl _ (build40 _)) ?_
  simp only [Act.put, List.setIfInBounds_toArray, List.set_cons_zero, List.set_cons_succ]
  refine wpList_callW rfl (by simp [go_sem]) ((same_info zH 0 0 0 0#64 none none 0 0 0 (fun _ => false) y10 (.inl ⟨rfl, rfl⟩) (.inl ⟨rfl, rfl⟩) (by decide)).mono ?_)
  rintro e y12 ⟨rfl, hX13⟩
  refine ⟨_, rfl, ?_⟩
  simp only [Act.put, List.setIfInBounds_toArray, List.set_cons_zero, List.set_cons_succ]
  replace Hbo := hideit (Hbo.out.carry hX13)
  replace Hbi := hideit (Hbi.out.carry hX13)
  replace hE := hideit (Ext.trans hE.out (hX13))

  clear hX13
  have m14 : y12.cell? ⟨bo, 3, none⟩ = some (.slice o2 l2 c2) := Hbo.out.1 3 (by decide)
  refine xm [some (.bool true), some (.bool true), some (.int .i64 6), some (.bool true), some (.bool true), some (.bool true), some (.pointer none), some (.pointer (some ⟨bo, 3, none⟩)), some (.slice o2 l2 c2)] (by kernel_rfl) (by simp [xr, go_sem, m14]) ?_
  simp only [xw, p0, p1, p2, p3]
  clear m14
  refine wpList_callW rfl (by simp [go_sem]) ((nil_open o2 l2 c2 y12).mono ?_)
  rintro e yy ⟨rfl, hyy⟩
  refine ⟨_, rfl, ?_⟩
  simp only [Act.put, List.setIfInBounds_toArray, List.set_cons_zero, List.set_cons_succ]
  replace hyy := hyy.symm
  subst hyy
  have m15 : y12.cell? ⟨bo, 1, none⟩ = some (.int .i64 (n)) := Hbo.out.1 1 (by decide)
  have m16 : y12.cell? ⟨bo, 2, none⟩ = some (.slice o1 l1 c1) := Hbo.out.1 2 (by decide)
  refine xm [some (.bool true), some (.bool true), some (.bool true), some (.pointer none), some (.pointer (some ⟨bo, 1, none⟩)), some (.int .i64 (n)), some (.pointer (some ⟨bo, 2, none⟩)), some (.slice o1 l1 c1)] (by kernel_rfl) (by simp [xr, go_sem, m15, m16]) ?_
  simp only [xw, p0, p1, p2, p3]
  clear m15
  clear m16
  refine wpList_callW rfl (by simp [go_sem]) ((nil_write n o1 l1 c1 y12).mono ?_)
  rintro e y17 ⟨rfl, hX18⟩
  refine ⟨_, rfl, ?_⟩
  simp only [Act.put, List.setIfInBounds_toArray, List.set_cons_zero, List.set_cons_succ]
  replace Hbo := hideit (Hbo.out.carry hX18)
  replace Hbi := hideit (Hbi.out.carry hX18)
  replace hE := hideit (Ext.trans hE.out (hX18))

  clear hX18
  refine xm [some (.bool true), some (.bool true), some (.bool true), some (.pointer none)] (by kernel_rfl) (by simp [xr, go_sem]) ?_
  simp only [xw, p0, p1, p2, p3]
  refine wpList_callW rfl (by simp [go_sem]) ((nil_flush y17).mono ?_)
  rintro e y19 ⟨rfl, hX20⟩
  refine ⟨_, rfl, ?_⟩
  simp only [Act.put, List.setIfInBounds_toArray, List.set_cons_zero, List.set_cons_succ]
  replace Hbo := hideit (Hbo.out.carry hX20)
  replace Hbi := hideit (Hbi.out.carry hX20)
  replace hE := hideit (Ext.trans hE.out (hX20))

  clear hX20
  have m21 : y19.cell? ⟨bo, 1, none⟩ = some (.int .i64 (n)) := Hbo.out.1 1 (by decide)
  have m22 : y19.cell? ⟨bo, 3, none⟩ = some (.slice o2 l2 c2) := Hbo.out.1 3 (by decide)
  refine xm [some (.bool true), some (.bool true), some (.bool true), some (.pointer none), some (.pointer (some ⟨bo, 1, none⟩)), some (.int .i64 (n)), some (.pointer (some ⟨bo, 3, none⟩)), some (.slice o2 l2 c2)] (by kernel_rfl) (by simp [xr, go_sem, m21, m22]) ?_
  simp only [xw, p0, p1, p2, p3]
  clear m21
  clear m22
  refine wpList_callW rfl (by simp [go_sem]) ((nil_add n o2 l2 c2 y19).mono ?_)
  rintro e y23 ⟨rfl, hX24⟩
  refine ⟨_, rfl, ?_⟩
  simp only [Act.put, List.setIfInBounds_toArray, List.set_cons_zero, List.set_cons_succ]
  replace Hbo := hideit (Hbo.out.carry hX24)
  replace Hbi := hideit (Hbi.out.carry hX24)
  replace hE := hideit (Ext.trans hE.out (hX24))

  clear hX24
  have m25 : y23.cell? ⟨bo, 1, none⟩ = some (.int .i64 (n)) := Hbo.out.1 1 (by decide)
  refine xm [some (.bool true), some (.bool true), some (.bool true), some (.pointer none), some (.pointer (some ⟨bo, 1, none⟩)), some (.int .i64 (n))] (by kernel_rfl) (by simp [xr, go_sem, m25]) ?_
  simp only [xw, p0, p1, p2, p3]
  clear m25
  refine wpList_callW rfl (by simp [go_sem]) ((nil_revoke n y23).mono ?_)
  rintro e y26 ⟨rfl, hX27⟩
  refine ⟨_, rfl, ?_⟩
  simp only [Act.put, List.setIfInBounds_toArray, List.set_cons_zero, List.set_cons_succ]
  replace Hbo := hideit (Hbo.out.carry hX27)
  replace Hbi := hideit (Hbi.out.carry hX27)
  replace hE := hideit (Ext.trans hE.out (hX27))

  clear hX27
  refine xm [some (.bool true), some (.bool true), some (.bool true), some (.pointer none)] (by kernel_rfl) (by simp [xr, go_sem]) ?_
  simp only [xw, p0, p1, p2, p3]
  refine wpList_callW rfl (by simp [go_sem]) ((nil_start y26).mono ?_)
  rintro e y28 ⟨rfl, hX29⟩
  refine ⟨_, rfl, ?_⟩
  simp only [Act.put, List.setIfInBounds_toArray, List.set_cons_zero, List.set_cons_succ]
  replace Hbo := hideit (Hbo.out.carry hX29)
  replace Hbi := hideit (Hbi.out.carry hX29)
  replace hE := hideit (Ext.trans hE.out (hX29))

  clear hX29
  refine xm [some (.bool true), some (.bool true), some (.bool true), some (.pointer none)] (by kernel_rfl) (by simp [xr, go_sem]) ?_
  simp only [xw, p0, p1, p2, p3]
  refine wpList_callW rfl (by simp [go_sem]) ((nil_close y28).mono ?_)
  rintro e y30 ⟨rfl, hX31⟩
  refine ⟨_, rfl, ?_⟩
  simp only [Act.put, List.setIfInBounds_toArray, List.set_cons_zero, List.set_cons_succ]
  replace Hbo := hideit (Hbo.out.carry hX31)
  replace Hbi := hideit (Hbi.out.carry hX31)
  replace hE := hideit (Ext.trans hE.out (hX31))

  clear hX31
  refine xm [some (.bool true), some (.bool true), some (.bool true), some (.pointer none)] (by kernel_rfl) (by simp [xr, go_sem]) ?_
  simp only [xw, p0, p1, p2, p3]
  refine wpList_callW rfl (by simp [go_sem]) ((nil_written y30).mono ?_)
  rintro e yy ⟨rfl, hyy⟩
  refine ⟨_, rfl, ?_⟩
  simp only [Act.put, List.setIfInBounds_toArray, List.set_cons_zero, List.set_cons_succ]
  replace hyy := hyy.symm
  subst hyy
  refine xm [some (.int .i64 0), some (.bool true), some (.bool true), some (.bool true), some (.pointer none)] (by kernel_rfl) (by simp [xr, go_sem]) ?_
  simp only [xw, p0, p1, p2, p3]
  refine wpList_callW rfl (by simp [go_sem]) ((nil_fork y30).mono ?_)
  rintro e yy ⟨rfl, hyy⟩
  refine ⟨_, rfl, ?_⟩
  simp only [Act.put, List.setIfInBounds_toArray, List.set_cons_zero, List.set_cons_succ]
  replace hyy := hyy.symm
  subst hyy
  refine xm [some (.bool true), some (.bool true), some (.bool true)] (by kernel_rfl) (by simp [xr, go_sem]) ?_
  simp only [xw, p0, p1, p2, p3]
  go_wp2
  go_ret
  exact ⟨rfl, hE.out⟩
end Go.Proofs.Ytcipkfalnjgghaa
