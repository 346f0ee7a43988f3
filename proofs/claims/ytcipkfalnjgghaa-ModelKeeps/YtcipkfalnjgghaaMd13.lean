/-
  Infos; methods of a nil model.
-/
import Derived.Test.YtcipkfalnjgghaaMd12
namespace Go.Proofs.Ytcipkfalnjgghaa
open Go.RowKit Go.BigFrame Go.Maps
set_option linter.unusedVariables false
theorem ret_row2 {P : Program} {F : Func} {tmps : Array Value} {k k2 : Nat} {t : TypeId} {b n : Nat} {g : Nat → Value} {X : World} {d : TypeDesc} (hF : F.results = #[.cell k t, .tmp k2]) (ht : tmps.getD k undef = .pointer (some ⟨b, 0, none⟩)) (h : RowAt b n g X)
    (hu : P.underlying t = some d) (hd : d.isRow = true) (hi : (P.info? t).map (·.size) = some n) : Sem.run P (results F tmps) X = .ok (.tuple #[.agg (row n g).toArray, tmps.getD k2 undef]) X := by
  have hl := run_loadVar_mid (P := P) X b 0 t (row n g) d h.range hu hd (by rw [row_length]; exact hi)
  unfold results
  rw [hF]
  simp only [List.mapM_toArray, List.mapM_cons, List.mapM_nil, ht]
  simp [asAddr, hl]
/-- what an Info holds -/
def ifV (h : Hd) (sl : Int) (sv : Value) (ep lf : Int) (ct : BitVec 64) : Nat → Value := fun j =>
  if j < 24 then hdv h j else if j = 24 then .int .i64 sl else if j = 25 then sv else if j = 26 then .int .i64 ep else if j = 27 then .int .i64 lf else .int .u64 (ct.toNat : Int)
theorem hdv_one (h : Hd) (j : Nat) : (hdv h j).oneCell' = true := by
  unfold hdv
  repeat' split
  all_goals rfl
theorem ifv_one (h : Hd) (sl : Int) (sv : Value) (ep lf : Int) (ct : BitVec 64) (hs : sv.oneCell' = true) (j : Nat) : (ifV h sl sv ep lf ct j).oneCell' = true := by
  unfold ifV
  split
  · exact hdv_one _ _
  · split
    · rfl
    · split
      · exact hs
      · split
        · rfl
        · split <;> rfl
theorem infoI : (Try.prog.info? 40).map (·.size) = some 29 := by kernel_rfl
def zH : Hd := ⟨0#64, 0, 0, 0, 0, 0, 0, 0, fun _ => 0#8⟩
theorem zero40 (w : World) : (zeroValue 40).run Try.prog w = .ok (.agg (row 29 (ifV zH 0 (.slice none 0 0) 0 0 0#64)).toArray) w := by kernel_rfl
theorem build40 (w : World) : (Instr.build 40 #[]).run Try.prog w = .ok (.agg (row 29 (ifV zH 0 (.slice none 0 0) 0 0 0#64)).toArray) w := run_build w 40 #[] _ (by kernel_rfl)
set_option maxRecDepth 20000 in
set_option maxHeartbeats 4000000 in
theorem ansb_nil (w : World) : Calls Try.prog 26 #[.pointer none, .func (.func 27) #[.pointer none] #[]] w fun e w' => e = .returned (.tuple #[.bool false, .int .i64 6]) ∧ Ext w w' := by
  have hE := hideit (Ext.refl w)
  go_enter Try.func26, Try.ntmps26
  go_upto_region 0 with (fail)
  refine wp_region_lit ?_
  have A0 := hideit (row1_new w (.func (.func 27) #[.pointer none] #[]) 31)
  have XB : Ext w (w.alloc (.cells #[.func (.func 27) #[.pointer none] #[]] 31)) := (Below.refl _ _).alloc (Nat.le_refl _) _
  have AE := hideit (Ext.trans hE.out (XB))
  have AB := hideit (hE.out.size)
  clear XB
  refine wpList_to rfl (.pointer (some ⟨w.heap.size, 0, none⟩)) (w.alloc (.cells #[.func (.func 27) #[.pointer none] #[]] 31)) (by simp [go_sem]) ?_
  simp only [Act.put, List.setIfInBounds_toArray, List.set_cons_zero, List.set_cons_succ]
  generalize w.alloc (.cells #[.func (.func 27) #[.pointer none] #[]] 31) = x2 at A0 AE ⊢
  obtain ⟨z1, ez1⟩ : ∃ b, b = w.heap.size := ⟨_, rfl⟩
  have ABz1 : Hid (w.heap.size ≤ z1) := by rw [ez1]; exact AB.out
  clear AB
  rw [← ez1] at A0  ⊢
  clear ez1
  have Hz1 := A0
  clear A0
  replace hE := AE
  clear AE
  refine xm [some (.bool false), some (.int .i64 0)] (by kernel_rfl) (by simp [xr, go_sem]) ?_
  simp only [xw, p0, p1, p2, p3]
  go_upto_region 1 with (fail)
  refine wp_region_lit ?_
  have A0 := hideit (row1_new x2 (.bool false) 4)
  have XB : Ext x2 (x2.alloc (.cells #[.bool false] 4)) := (Below.refl _ _).alloc (Nat.le_refl _) _
  have A1 := hideit (Hz1.out.carry XB)
  have AE := hideit (Ext.trans hE.out (XB))
  have AB := hideit (hE.out.size)
  have D0 : Hid (z1 ≠ x2.heap.size) := Nat.ne_of_lt Hz1.out.2.2
  clear XB
  refine wpList_to rfl (.pointer (some ⟨x2.heap.size, 0, none⟩)) (x2.alloc (.cells #[.bool false] 4)) (by simp [go_sem]) ?_
  simp only [Act.put, List.setIfInBounds_toArray, List.set_cons_zero, List.set_cons_succ]
  generalize x2.alloc (.cells #[.bool false] 4) = x4 at A0 A1 AE ⊢
  obtain ⟨z3, ez3⟩ : ∃ b, b = x2.heap.size := ⟨_, rfl⟩
  have ABz3 : Hid (w.heap.size ≤ z3) := by rw [ez3]; exact AB.out
  clear AB
  rw [← ez3] at A0 D0 ⊢
  clear ez3
  have Hz3 := A0
  clear A0
  replace Hz1 := A1
  clear A1
  replace hE := AE
  clear AE
  have Dz3_0 := D0
  clear D0
  go_upto_region 2 with (fail)
  refine wp_region_lit ?_
  refine xm [some (.pointer none), some (.func (.func 59) #[] #[.pointer (some ⟨z1, 0, none⟩), .pointer (some ⟨z3, 0, none⟩)])] (by kernel_rfl) (by simp [xr, go_sem]) ?_
  simp only [xw, p0, p1, p2, p3]
  have A0 := hideit (RowAt.newOf x4 1 (fnV (fun i => [59].getD i 0) (fun i => [#[]].getD i #[]) (fun i => [#[.pointer (some ⟨z1, 0, none⟩), .pointer (some ⟨z3, 0, none⟩)]].getD i #[])) 47 #[.func (.func 59) #[] #[.pointer (some ⟨z1, 0, none⟩), .pointer (some ⟨z3, 0, none⟩)]] (fun j hj => by rcases (by omega : j = 0) with rfl <;> rfl))
  have XB : Ext x4 (x4.alloc (.cells #[.func (.func 59) #[] #[.pointer (some ⟨z1, 0, none⟩), .pointer (some ⟨z3, 0, none⟩)]] 47)) := (Below.refl _ _).alloc (Nat.le_refl _) _
  have A1 := hideit (Hz1.out.carry XB)
  have A2 := hideit (Hz3.out.carry XB)
  have AE := hideit (Ext.trans hE.out (XB))
  have AB := hideit (hE.out.size)
  have D0 : Hid (z1 ≠ x4.heap.size) := Nat.ne_of_lt Hz1.out.2.2
  have D1 : Hid (z3 ≠ x4.heap.size) := Nat.ne_of_lt Hz3.out.2.2
  clear XB
  refine wpList_to rfl (.slice (some ⟨x4.heap.size, 0, none⟩) 1 1) (x4.alloc (.cells #[.func (.func 59) #[] #[.pointer (some ⟨z1, 0, none⟩), .pointer (some ⟨z3, 0, none⟩)]] 47)) (by simp [go_sem]) ?_
  simp only [Act.put, List.setIfInBounds_toArray, List.set_cons_zero, List.set_cons_succ]
  generalize x4.alloc (.cells #[.func (.func 59) #[] #[.pointer (some ⟨z1, 0, none⟩), .pointer (some ⟨z3, 0, none⟩)]] 47) = x6 at A0 A1 A2 AE ⊢
  obtain ⟨z5, ez5⟩ : ∃ b, b = x4.heap.size := ⟨_, rfl⟩
  have ABz5 : Hid (w.heap.size ≤ z5) := by rw [ez5]; exact AB.out
  clear AB
  rw [← ez5] at A0 D0 D1 ⊢
  clear ez5
  have Hz5 := A0
  clear A0
  replace Hz1 := A1
  clear A1
  replace Hz3 := A2
  clear A2
  replace hE := AE
  clear AE
  have Dz5_0 := D0
  clear D0
  have Dz5_1 := D1
  clear D1
  refine wpList_call rfl (by simp [go_sem]) ((do_nil (.slice (some ⟨z5, 0, none⟩) 1 1) x6).mono ?_)
  rintro e yy ⟨rfl, hyy⟩
  refine ⟨_, rfl, ?_⟩
  simp only [Act.put, List.setIfInBounds_toArray, List.set_cons_zero, List.set_cons_succ]
  replace hyy := hyy.symm
  subst hyy
  refine xm [some (.int .i64 6)] (by kernel_rfl) (by simp [xr, go_sem]) ?_
  simp only [xw, p0, p1, p2, p3]
  go_upto_region 3 with (fail)
  refine wp_region_lit ?_
  have m7 : x6.cell? ⟨z3, 0, none⟩ = some (.bool false) := Hz3.out.1 0 (by decide)
  refine xm [some (.bool false), some (.int .i64 6), some (.bool false), some (.int .i64 6)] (by kernel_rfl) (by simp [xr, go_sem, m7]) ?_
  simp only [xw, p0, p1, p2, p3]
  clear m7
  go_wp2
  refine bodyPost_ret (res2 rfl _ _ _) rfl ?_
  exact ⟨rfl, hE.out⟩
set_option maxRecDepth 20000 in
set_option maxHeartbeats 4000000 in
theorem nil_step (w : World) : Calls Try.prog 6 #[.pointer none] w fun e w' => e = .returned (.tuple #[.bool false, .int .i64 6]) ∧ Ext w w' := by
  have hE := hideit (Ext.refl w)
  go_enter Try.func6, Try.ntmps6
  go_upto_region 0 with (fail)
  refine wp_region_lit ?_
  refine xm [some (.bool false), some (.int .i64 0)] (by kernel_rfl) (by simp [xr, go_sem]) ?_
  simp only [xw, p0, p1, p2, p3]
  go_upto_region 1 with (fail)
  refine wp_region_lit ?_
  refine xm [some (.pointer none), some (.pointer none), some (.func (.func 27) #[.pointer none] #[])] (by kernel_rfl) (by simp [xr, go_sem]) ?_
  simp only [xw, p0, p1, p2, p3]
  refine wpList_call rfl (by simp [go_sem]) ((ansb_nil w).mono ?_)
  rintro e y1 ⟨rfl, hX2⟩
  refine ⟨_, rfl, ?_⟩
  simp only [Act.put, List.setIfInBounds_toArray, List.set_cons_zero, List.set_cons_succ]
  replace hE := hideit (Ext.trans hE.out (hX2))

  clear hX2
  refine xm [some (.bool false), some (.int .i64 6), some (.bool false), some (.int .i64 6)] (by kernel_rfl) (by simp [xr, go_sem]) ?_
  simp only [xw, p0, p1, p2, p3]
  go_wp2
  refine bodyPost_ret (res2 rfl _ _ _) rfl ?_
  exact ⟨rfl, hE.out⟩
set_option maxRecDepth 20000 in
set_option maxHeartbeats 4000000 in
theorem ansi_nil (w : World) : Calls Try.prog 28 #[.pointer none, .func (.func 29) #[.pointer none] #[]] w fun e w' => e = .returned (.tuple #[.agg (row 29 (ifV zH 0 (.slice none 0 0) 0 0 0#64)).toArray, .int .i64 6]) ∧ Ext w w' := by
  have hE := hideit (Ext.refl w)
  go_enter Try.func28, Try.ntmps28
  go_upto_region 0 with (fail)
  refine wp_region_lit ?_
  have A0 := hideit (row1_new w (.func (.func 29) #[.pointer none] #[]) 42)
  have XB : Ext w (w.alloc (.cells #[.func (.func 29) #[.pointer none] #[]] 42)) := (Below.refl _ _).alloc (Nat.le_refl _) _
  have AE := hideit (Ext.trans hE.out (XB))
  have AB := hideit (hE.out.size)
  clear XB
  refine wpList_to rfl (.pointer (some ⟨w.heap.size, 0, none⟩)) (w.alloc (.cells #[.func (.func 29) #[.pointer none] #[]] 42)) (by simp [go_sem]) ?_
  simp only [Act.put, List.setIfInBounds_toArray, List.set_cons_zero, List.set_cons_succ]
  generalize w.alloc (.cells #[.func (.func 29) #[.pointer none] #[]] 42) = x2 at A0 AE ⊢
  obtain ⟨z1, ez1⟩ : ∃ b, b = w.heap.size := ⟨_, rfl⟩
  have ABz1 : Hid (w.heap.size ≤ z1) := by rw [ez1]; exact AB.out
  clear AB
  rw [← ez1] at A0  ⊢
  clear ez1
  have Hz1 := A0
  clear A0
  replace hE := AE
  clear AE
  have A0 := hideit (RowAt.new x2 29 (ifV zH 0 (.slice none 0 0) 0 0 0#64) 40)
  have XB : Ext x2 (x2.alloc (.cells (row 29 (ifV zH 0 (.slice none 0 0) 0 0 0#64)).toArray 40)) := (Below.refl _ _).alloc (Nat.le_refl _) _
  have A1 := hideit (Hz1.out.carry XB)
  have AE := hideit (Ext.trans hE.out (XB))
  have AB := hideit (hE.out.size)
  have D0 : Hid (z1 ≠ x2.heap.size) := Nat.ne_of_lt Hz1.out.2.2
  clear XB
  refine wpList_to rfl (.pointer (some ⟨x2.heap.size, 0, none⟩)) (x2.alloc (.cells (row 29 (ifV zH 0 (.slice none 0 0) 0 0 0#64)).toArray 40)) (xalloc 40 _ rfl (zero40 _)) ?_
  simp only [Act.put, List.setIfInBounds_toArray, List.set_cons_zero, List.set_cons_succ]
  generalize x2.alloc (.cells (row 29 (ifV zH 0 (.slice none 0 0) 0 0 0#64)).toArray 40) = x3 at A0 A1 AE ⊢
  obtain ⟨z4, ez4⟩ : ∃ b, b = x2.heap.size := ⟨_, rfl⟩
  have ABz4 : Hid (w.heap.size ≤ z4) := by rw [ez4]; exact AB.out
  clear AB
  rw [← ez4] at A0 D0 ⊢
  clear ez4
  have Hz4 := A0
  clear A0
  replace Hz1 := A1
  clear A1
  replace hE := AE
  clear AE
  have Dz4_0 := D0
  clear D0
  refine xm [some (.int .i64 0)] (by kernel_rfl) (by simp [xr, go_sem]) ?_
  simp only [xw, p0, p1, p2, p3]
  go_upto_region 1 with (fail)
  refine wp_region_lit ?_
  have A0 := hideit (RowAt.new x3 29 (ifV zH 0 (.slice none 0 0) 0 0 0#64) 40)
  have XB : Ext x3 (x3.alloc (.cells (row 29 (ifV zH 0 (.slice none 0 0) 0 0 0#64)).toArray 40)) := (Below.refl _ _).alloc (Nat.le_refl _) _
  have A1 := hideit (Hz1.out.carry XB)
  have A2 := hideit (Hz4.out.carry XB)
  have AE := hideit (Ext.trans hE.out (XB))
  have AB := hideit (hE.out.size)
  have D0 : Hid (z1 ≠ x3.heap.size) := Nat.ne_of_lt Hz1.out.2.2
  have D1 : Hid (z4 ≠ x3.heap.size) := Nat.ne_of_lt Hz4.out.2.2
  clear XB
  refine wpList_to rfl (.pointer (some ⟨x3.heap.size, 0, none⟩)) (x3.alloc (.cells (row 29 (ifV zH 0 (.slice none 0 0) 0 0 0#64)).toArray 40)) (xalloc 40 _ rfl (zero40 _)) ?_
  simp only [Act.put, List.setIfInBounds_toArray, List.set_cons_zero, List.set_cons_succ]
  generalize x3.alloc (.cells (row 29 (ifV zH 0 (.slice none 0 0) 0 0 0#64)).toArray 40) = x4 at A0 A1 A2 AE ⊢
  obtain ⟨z6, ez6⟩ : ∃ b, b = x3.heap.size := ⟨_, rfl⟩
  have ABz6 : Hid (w.heap.size ≤ z6) := by rw [ez6]; exact AB.out
  clear AB
  rw [← ez6] at A0 D0 D1 ⊢
  clear ez6
  have Hz6 := A0
  clear A0
  replace Hz1 := A1
  clear A1
  replace Hz4 := A2
  clear A2
  replace hE := AE
  clear AE
  have Dz6_0 := D0
  clear D0
  have Dz6_1 := D1
  clear D1
  go_upto_region 2 with (fail)
  refine wp_region_lit ?_
  refine xm [some (.pointer none), some (.func (.func 61) #[] #[.pointer (some ⟨z1, 0, none⟩), .pointer (some ⟨z6, 0, none⟩)])] (by kernel_rfl) (by simp [xr, go_sem]) ?_
  simp only [xw, p0, p1, p2, p3]
  have A0 := hideit (RowAt.newOf x4 1 (fnV (fun i => [61].getD i 0) (fun i => [#[]].getD i #[]) (fun i => [#[.pointer (some ⟨z1, 0, none⟩), .pointer (some ⟨z6, 0, none⟩)]].getD i #[])) 47 #[.func (.func 61) #[] #[.pointer (some ⟨z1, 0, none⟩), .pointer (some ⟨z6, 0, none⟩)]] (fun j hj => by rcases (by omega : j = 0) with rfl <;> rfl))
  have XB : Ext x4 (x4.alloc (.cells #[.func (.func 61) #[] #[.pointer (some ⟨z1, 0, none⟩), .pointer (some ⟨z6, 0, none⟩)]] 47)) := (Below.refl _ _).alloc (Nat.le_refl _) _
  have A1 := hideit (Hz1.out.carry XB)
  have A2 := hideit (Hz4.out.carry XB)
  have A3 := hideit (Hz6.out.carry XB)
  have AE := hideit (Ext.trans hE.out (XB))
  have AB := hideit (hE.out.size)
  have D0 : Hid (z1 ≠ x4.heap.size) := Nat.ne_of_lt Hz1.out.2.2
  have D1 : Hid (z4 ≠ x4.heap.size) := Nat.ne_of_lt Hz4.out.2.2
  have D2 : Hid (z6 ≠ x4.heap.size) := Nat.ne_of_lt Hz6.out.2.2
  clear XB
  refine wpList_to rfl (.slice (some ⟨x4.heap.size, 0, none⟩) 1 1) (x4.alloc (.cells #[.func (.func 61) #[] #[.pointer (some ⟨z1, 0, none⟩), .pointer (some ⟨z6, 0, none⟩)]] 47)) (by simp [go_sem]) ?_
  simp only [Act.put, List.setIfInBounds_toArray, List.set_cons_zero, List.set_cons_succ]
  generalize x4.alloc (.cells #[.func (.func 61) #[] #[.pointer (some ⟨z1, 0, none⟩), .pointer (some ⟨z6, 0, none⟩)]] 47) = x6 at A0 A1 A2 A3 AE ⊢
  obtain ⟨z5, ez5⟩ : ∃ b, b = x4.heap.size := ⟨_, rfl⟩
  have ABz5 : Hid (w.heap.size ≤ z5) := by rw [ez5]; exact AB.out
  clear AB
  rw [← ez5] at A0 D0 D1 D2 ⊢
  clear ez5
  have Hz5 := A0
  clear A0
  replace Hz1 := A1
  clear A1
  replace Hz4 := A2
  clear A2
  replace Hz6 := A3
  clear A3
  replace hE := AE
  clear AE
  have Dz5_0 := D0
  clear D0
  have Dz5_1 := D1
  clear D1
  have Dz5_2 := D2
  clear D2
  refine wpList_call rfl (by simp [go_sem]) ((do_nil (.slice (some ⟨z5, 0, none⟩) 1 1) x6).mono ?_)
  rintro e yy ⟨rfl, hyy⟩
  refine ⟨_, rfl, ?_⟩
  simp only [Act.put, List.setIfInBounds_toArray, List.set_cons_zero, List.set_cons_succ]
  replace hyy := hyy.symm
  subst hyy
  refine xm [some (.int .i64 6)] (by kernel_rfl) (by simp [xr, go_sem]) ?_
  simp only [xw, p0, p1, p2, p3]
  go_upto_region 3 with (fail)
  refine wp_region_lit ?_
  refine wpList_run rfl (.agg (row 29 (ifV zH 0 (.slice none 0 0) 0 0 0#64)).toArray) (xload 40 (.tmp 6) rfl z6 0 29 _ rfl Hz6.out.range Try.underlying40 rfl infoI) ?_
  simp only [Act.put, List.setIfInBounds_toArray, List.set_cons_zero, List.set_cons_succ]
  refine xm [some (.int .i64 6)] (by kernel_rfl) (by simp [xr, go_sem]) ?_
  simp only [xw, p0, p1, p2, p3]
  have N0 := hideit (Hz4.out.cells (g' := ifV zH 0 (.slice none 0 0) 0 0 0#64))
  have N1 := hideit (Hz1.out.cellsOther (Ne.symm (Dz4_0.out)) (row 29 (ifV zH 0 (.slice none 0 0) 0 0 0#64)) 0)
  have N2 := hideit (Hz6.out.cellsOther (Dz6_1.out) (row 29 (ifV zH 0 (.slice none 0 0) 0 0 0#64)) 0)
  have N3 := hideit (Hz5.out.cellsOther (Dz5_1.out) (row 29 (ifV zH 0 (.slice none 0 0) 0 0 0#64)) 0)
  have NE := hideit (below_setCells z4 (ABz4.out) (row 29 (ifV zH 0 (.slice none 0 0) 0 0 0#64)) 0 _ hE.out)
  refine xst rfl (x6.setCells z4 0 (row 29 (ifV zH 0 (.slice none 0 0) 0 0 0#64))) (xstore 40 (.tmp 4) (.tmp 12) rfl z4 29 _ (ifV zH 0 (.slice none 0 0) 0 0 0#64) rfl rfl Hz4.out infoI (fun j _ => ifv_one _ _ _ _ _ _ rfl j)) ?_
  simp only [Act.put]
  generalize x6.setCells z4 0 (row 29 (ifV zH 0 (.slice none 0 0) 0 0 0#64)) = x7 at N0 N1 N2 N3 NE ⊢
  replace Hz4 := N0
  replace Hz1 := N1
  replace Hz6 := N2
  replace Hz5 := N3
  replace hE := NE
  clear N0 N1 N2 N3 NE
  refine xm [some (.int .i64 6)] (by kernel_rfl) (by simp [xr, go_sem]) ?_
  simp only [xw, p0, p1, p2, p3]
  go_wp2
  refine bodyPost_ret (ret_row2 rfl rfl Hz4.out Try.underlying40 rfl infoI) rfl ?_
  exact ⟨rfl, hE.out⟩
set_option maxRecDepth 20000 in
set_option maxHeartbeats 4000000 in
theorem nil_info (w : World) : Calls Try.prog 7 #[.pointer none] w fun e w' => e = .returned (.tuple #[.agg (row 29 (ifV zH 0 (.slice none 0 0) 0 0 0#64)).toArray, .int .i64 6]) ∧ Ext w w' := by
  have hE := hideit (Ext.refl w)
  go_enter Try.func7, Try.ntmps7
  go_upto_region 0 with (fail)
  refine wp_region_lit ?_
  have A0 := hideit (RowAt.new w 29 (ifV zH 0 (.slice none 0 0) 0 0 0#64) 40)
  have XB : Ext w (w.alloc (.cells (row 29 (ifV zH 0 (.slice none 0 0) 0 0 0#64)).toArray 40)) := (Below.refl _ _).alloc (Nat.le_refl _) _
  have AE := hideit (Ext.trans hE.out (XB))
  have AB := hideit (hE.out.size)
  clear XB
  refine wpList_to rfl (.pointer (some ⟨w.heap.size, 0, none⟩)) (w.alloc (.cells (row 29 (ifV zH 0 (.slice none 0 0) 0 0 0#64)).toArray 40)) (xalloc 40 _ rfl (zero40 _)) ?_
  simp only [Act.put, List.setIfInBounds_toArray, List.set_cons_zero, List.set_cons_succ]
  generalize w.alloc (.cells (row 29 (ifV zH 0 (.slice none 0 0) 0 0 0#64)).toArray 40) = x1 at A0 AE ⊢
  obtain ⟨z2, ez2⟩ : ∃ b, b = w.heap.size := ⟨_, rfl⟩
  have ABz2 : Hid (w.heap.size ≤ z2) := by rw [ez2]; exact AB.out
  clear AB
  rw [← ez2] at A0  ⊢
  clear ez2
  have Hz2 := A0
  clear A0
  replace hE := AE
  clear AE
  refine xm [some (.int .i64 0)] (by kernel_rfl) (by simp [xr, go_sem]) ?_
  simp only [xw, p0, p1, p2, p3]
  go_upto_region 1 with (fail)
  refine wp_region_lit ?_
  refine xm [some (.pointer none), some (.pointer none), some (.func (.func 29) #[.pointer none] #[])] (by kernel_rfl) (by simp [xr, go_sem]) ?_
  simp only [xw, p0, p1, p2, p3]
  refine wpList_call rfl (by simp [go_sem]) ((ansi_nil x1).mono ?_)
  rintro e y2 ⟨rfl, hX3⟩
  refine ⟨_, rfl, ?_⟩
  simp only [Act.put, List.setIfInBounds_toArray, List.set_cons_zero, List.set_cons_succ]
  replace Hz2 := hideit (Hz2.out.carry hX3)
  replace hE := hideit (Ext.trans hE.out (hX3))

  clear hX3
  refine xm [some (.agg (row 29 (ifV zH 0 (.slice none 0 0) 0 0 0#64)).toArray), some (.int .i64 6)] (by kernel_rfl) (by simp [xr, go_sem]) ?_
  simp only [xw, p0, p1, p2, p3]
  have N0 := hideit (Hz2.out.cells (g' := ifV zH 0 (.slice none 0 0) 0 0 0#64))
  have NE := hideit (below_setCells z2 (ABz2.out) (row 29 (ifV zH 0 (.slice none 0 0) 0 0 0#64)) 0 _ hE.out)
  refine xst rfl (y2.setCells z2 0 (row 29 (ifV zH 0 (.slice none 0 0) 0 0 0#64))) (xstore 40 (.tmp 2) (.tmp 8) rfl z2 29 _ (ifV zH 0 (.slice none 0 0) 0 0 0#64) rfl rfl Hz2.out infoI (fun j _ => ifv_one _ _ _ _ _ _ rfl j)) ?_
  simp only [Act.put]
  generalize y2.setCells z2 0 (row 29 (ifV zH 0 (.slice none 0 0) 0 0 0#64)) = x4 at N0 NE ⊢
  replace Hz2 := N0
  replace hE := NE
  clear N0 NE
  refine xm [some (.int .i64 6)] (by kernel_rfl) (by simp [xr, go_sem]) ?_
  simp only [xw, p0, p1, p2, p3]
  go_wp2
  refine bodyPost_ret (ret_row2 rfl rfl Hz2.out Try.underlying40 rfl infoI) rfl ?_
  exact ⟨rfl, hE.out⟩
set_option maxRecDepth 20000 in
set_option maxHeartbeats 4000000 in
theorem nil_open (o : Option Addr) (l k : Nat) (w : World) : Calls Try.prog 10 #[.pointer none, .slice o l k] w fun e w' => e = .returned (.int .i64 6) ∧ w' = w := by
  go_enter Try.func10, Try.ntmps10
  go_upto_region 1 with (fail)
  refine wp_region_lit ?_
  refine xm [some (.pointer none), some (.bool true)] (by kernel_rfl) (by simp [xr, go_sem]) ?_
  simp only [xw, p0, p1, p2, p3]
  go_upto_region 2 with (fail)
  refine wp_region_lit ?_
  refine xm [some (.int .i64 6)] (by kernel_rfl) (by simp [xr, go_sem]) ?_
  simp only [xw, p0, p1, p2, p3]
  go_wp2
  go_ret
  exact ⟨rfl, rfl⟩
set_option maxRecDepth 20000 in
set_option maxHeartbeats 4000000 in
theorem nil_written (w : World) : Calls Try.prog 17 #[.pointer none] w fun e w' => e = .returned (.slice none 0 0) ∧ w' = w := by
  go_enter Try.func17, Try.ntmps17
  go_upto_region 1 with (fail)
  refine wp_region_lit ?_
  refine xm [some (.pointer none), some (.bool true)] (by kernel_rfl) (by simp [xr, go_sem]) ?_
  simp only [xw, p0, p1, p2, p3]
  go_upto_region 2 with (fail)
  refine wp_region_lit ?_
  refine xm [some (.slice none 0 0)] (by kernel_rfl) (by simp [xr, go_sem]) ?_
  simp only [xw, p0, p1, p2, p3]
  go_wp2
  go_ret
  exact ⟨rfl, rfl⟩
set_option maxRecDepth 20000 in
set_option maxHeartbeats 4000000 in
theorem nil_fork (w : World) : Calls Try.prog 18 #[.pointer none] w fun e w' => e = .returned (.pointer none) ∧ w' = w := by
  go_enter Try.func18, Try.ntmps18
  go_upto_region 1 with (fail)
  refine wp_region_lit ?_
  refine xm [some (.pointer none), some (.bool true)] (by kernel_rfl) (by simp [xr, go_sem]) ?_
  simp only [xw, p0, p1, p2, p3]
  go_upto_region 2 with (fail)
  refine wp_region_lit ?_
  refine xm [some (.pointer none)] (by kernel_rfl) (by simp [xr, go_sem]) ?_
  simp only [xw, p0, p1, p2, p3]
  go_wp2
  go_ret
  exact ⟨rfl, rfl⟩
/-- so many bools -/
def LV (v : Value) (n : Nat) (b : Nat → Bool) (w : World) : Prop := (v = .slice none 0 0 ∧ n = 0) ∨ ∃ a cap, v = .slice (some a) n cap ∧ LieAt a n (fun j => .bool (b j)) w
theorem LV.ext {v : Value} {n : Nat} {b : Nat → Bool} {w X : World} (h : LV v n b w) (k : Ext w X) : LV v n b X := by
  rcases h with h | ⟨a, cap, h1, h2⟩
  · exact .inl h
  · exact .inr ⟨a, cap, h1, h2.carry k⟩
theorem xloadB {P : Program} {o : Oper} {a : Act} {w : World} (t : TypeId) (x : Operand) (ho : o.op = .load t x) (ad : Addr) (b : Bool) (hx : a.eval x = .pointer (some ad)) (h : w.cell? ad = some (.bool b)) (hg : ∀ w, (isAgg t).run P w = .ok false w) : (execOp a.eval o).run P w = .ok (.value (.bool b)) w := by
  generalize a.eval = ρ at hx ⊢
  unfold execOp
  simp [ho, hx, Instr.loadAt, Instr.sureAddr, loadVar, hg, h, go_sem]
set_option maxRecDepth 20000 in
set_option maxHeartbeats 4000000 in
theorem same_info (h : Hd) (sl ep lf : Int) (ct : BitVec 64) (o1 o2 : Option Addr) (n k1 k2 : Nat) (b : Nat → Bool) (w : World) (hL1 : LV (.slice o1 n k1) n b w) (hL2 : LV (.slice o2 n k2) n b w) (hn : n ≤ 1000) : Calls Try.prog 9 #[.agg (row 29 (ifV h sl (.slice o1 n k1) ep lf ct)).toArray, .agg (row 29 (ifV h sl (.slice o2 n k2) ep lf ct)).toArray] w fun e w' => e = .returned (.bool true) ∧ Ext w w' := by
  replace hL1 := hideit hL1
  replace hL2 := hideit hL2
  replace hn := hideit hn
  have hE := hideit (Ext.refl w)
  go_enter Try.func9, Try.ntmps9
  go_upto_region 0 with (fail)
  refine wp_region_lit ?_
  have A0 := hideit (RowAt.new w 29 (ifV h sl (.slice o1 n k1) ep lf ct) 40)
  have XB : Ext w (w.alloc (.cells (row 29 (ifV h sl (.slice o1 n k1) ep lf ct)).toArray 40)) := (Below.refl _ _).alloc (Nat.le_refl _) _
  have L0 := hideit (hL1.out.ext XB)
  have L1 := hideit (hL2.out.ext XB)
  have AE := hideit (Ext.trans hE.out (XB))
  have AB := hideit (hE.out.size)
  clear XB
  refine wpList_to rfl (.pointer (some ⟨w.heap.size, 0, none⟩)) (w.alloc (.cells (row 29 (ifV h sl (.slice o1 n k1) ep lf ct)).toArray 40)) (by simp [go_sem]) ?_
  simp only [Act.put, List.setIfInBounds_toArray, List.set_cons_zero, List.set_cons_succ]
  generalize w.alloc (.cells (row 29 (ifV h sl (.slice o1 n k1) ep lf ct)).toArray 40) = x1 at A0 L0 L1 AE ⊢
  obtain ⟨b1, eb1⟩ : ∃ b, b = w.heap.size := ⟨_, rfl⟩
  have ABb1 : Hid (w.heap.size ≤ b1) := by rw [eb1]; exact AB.out
  clear AB
  rw [← eb1] at A0  ⊢
  clear eb1
  have Hb1 := A0
  clear A0
  replace hL1 := L0
  clear L0
  replace hL2 := L1
  clear L1
  replace hE := AE
  clear AE
  have A0 := hideit (RowAt.new x1 29 (ifV h sl (.slice o2 n k2) ep lf ct) 40)
  have XB : Ext x1 (x1.alloc (.cells (row 29 (ifV h sl (.slice o2 n k2) ep lf ct)).toArray 40)) := (Below.refl _ _).alloc (Nat.le_refl _) _
  have A1 := hideit (Hb1.out.carry XB)
  have L0 := hideit (hL1.out.ext XB)
  have L1 := hideit (hL2.out.ext XB)
  have AE := hideit (Ext.trans hE.out (XB))
  have AB := hideit (hE.out.size)
  have D0 : Hid (b1 ≠ x1.heap.size) := Nat.ne_of_lt Hb1.out.2.2
  clear XB
  refine wpList_to rfl (.pointer (some ⟨x1.heap.size, 0, none⟩)) (x1.alloc (.cells (row 29 (ifV h sl (.slice o2 n k2) ep lf ct)).toArray 40)) (by simp [go_sem]) ?_
  simp only [Act.put, List.setIfInBounds_toArray, List.set_cons_zero, List.set_cons_succ]
  generalize x1.alloc (.cells (row 29 (ifV h sl (.slice o2 n k2) ep lf ct)).toArray 40) = x2 at A0 A1 L0 L1 AE ⊢
  obtain ⟨b2, eb2⟩ : ∃ b, b = x1.heap.size := ⟨_, rfl⟩
  have ABb2 : Hid (w.heap.size ≤ b2) := by rw [eb2]; exact AB.out
  clear AB
  rw [← eb2] at A0 D0 ⊢
  clear eb2
  have Hb2 := A0
  clear A0
  replace Hb1 := A1
  clear A1
  replace hL1 := L0
  clear L0
  replace hL2 := L1
  clear L1
  replace hE := AE
  clear AE
  have Db2_0 := D0
  clear D0
  refine xm [some (.bool false)] (by kernel_rfl) (by simp [xr, go_sem]) ?_
  simp only [xw, p0, p1, p2, p3]
  go_upto_region 1 with (fail)
  refine wp_region_lit ?_
  have m3 : x2.cell? ⟨b1, 25, none⟩ = some (.slice o1 n k1) := Hb1.out.1 25 (by decide)
  have m4 : x2.cell? ⟨b2, 25, none⟩ = some (.slice o2 n k2) := Hb2.out.1 25 (by decide)
  refine xm [some (.pointer (some ⟨b1, 25, none⟩)), some (.slice o1 n k1), some (.int .i64 (n : Int)), some (.pointer (some ⟨b2, 25, none⟩)), some (.slice o2 n k2), some (.int .i64 (n : Int)), some (.bool false)] (by kernel_rfl) (by simp [xr, go_sem, m3, m4]) ?_
  simp only [xw, p0, p1, p2, p3]
  clear m3
  clear m4
  go_upto_region 3 with (fail)
  refine wp_region_lit ?_
  refine xm [some (.int .i64 0)] (by kernel_rfl) (by simp [xr, go_sem]) ?_
  simp only [xw, p0, p1, p2, p3]
  go_wp2
  go_loopw [5] (fun t X => ∃ i : Nat, i ≤ n ∧ t = .int .i64 (i : Int) ∧ RowAt b1 29 (ifV h sl (.slice o1 n k1) ep lf ct) X ∧ RowAt b2 29 (ifV h sl (.slice o2 n k2) ep lf ct) X ∧ LV (.slice o1 n k1) n b X ∧ LV (.slice o2 n k2) n b X ∧ Ext w X) (fun t _ => n - (intOf t).toNat)
  case atStart => exact ⟨0, Nat.zero_le _, rfl, Hb1.out, Hb2.out, hL1.out, hL2.out, hE.out⟩
  case round =>
    obtain ⟨i, hin, rfl, r1, r2, rL1, rL2, rE⟩ := hrel
    clear Hb1 Hb2 hE hL1 hL2
    replace r1 := hideit r1
    replace r2 := hideit r2
    replace rL1 := hideit rL1
    replace rL2 := hideit rL2
    replace rE := hideit rE
    by_cases hi2 : i < n
    · have hi := hideit hi2
      have ek : IntKind.i64.wrap ((i : Int) + 1) = ((i + 1 : Nat) : Int) := by have := hn.out; rw [IntKind.wrap_i64]; omega
      obtain ⟨a1, rfl⟩ : ∃ a, o1 = some a := by
        rcases rL1.out with ⟨_, h0⟩ | ⟨a, c, h1, _⟩
        · omega
        · injection h1 with h1; exact ⟨a, h1⟩
      obtain ⟨a2, rfl⟩ : ∃ a, o2 = some a := by
        rcases rL2.out with ⟨_, h0⟩ | ⟨a, c, h1, _⟩
        · omega
        · injection h1 with h1; exact ⟨a, h1⟩
      have hcell1 : Hid (∀ X, Ext wr.drew X → X.cell? (a1.add i) = some (.bool (b i))) := fun X hX => by
        rcases rL1.out with ⟨h0, _⟩ | ⟨a, c, h1, h2⟩
        · cases h0
        · injection h1 with h1; injection h1 with h1; subst h1; exact (h2.carry (Ext.trans (Ext.draw (Ext.refl wr)) hX)).1 i hi.out
      have hcell2 : Hid (∀ X, Ext wr.drew X → X.cell? (a2.add i) = some (.bool (b i))) := fun X hX => by
        rcases rL2.out with ⟨h0, _⟩ | ⟨a, c, h1, h2⟩
        · cases h0
        · injection h1 with h1; injection h1 with h1; subst h1; exact (h2.carry (Ext.trans (Ext.draw (Ext.refl wr)) hX)).1 i hi.out
      clear hi2 hin
      go_upto_region 4 with (fail)
      refine wp_region_lit ?_
      have m5 : wr.cell? ⟨b1, 25, none⟩ = some (.slice (some a1) n k1) := r1.out.1 25 (by decide)
      refine xm [some (.int .i64 (i : Int)), some (.pointer (some ⟨b1, 25, none⟩)), some (.slice (some a1) n k1), some (.int .i64 (n : Int)), some (.bool true)] (by kernel_rfl) (by simp [xr, go_sem, m5, hi.out]) ?_
      simp only [xw, p0, p1, p2, p3]
      clear m5
      go_upto_region 6 with (fail)
      replace r1 := hideit r1.out.drew
      replace r2 := hideit r2.out.drew
      replace rL1 := hideit (rL1.out.ext (Ext.draw (Ext.refl wr)))
      replace rL2 := hideit (rL2.out.ext (Ext.draw (Ext.refl wr)))
      replace rE := hideit (Ext.draw rE.out)
      refine wp_region_lad (fun X => Ext wr.drew X) [(false, 0), (false, 1), (false, 2), (false, 3), (false, 4), (false, 5), (false, 6), (false, 7), (false, 8), (false, 9), (false, 10)] (by kernel_rfl) (by kernel_rfl) (by decide +kernel) (by decide +kernel) (by decide +kernel) (by decide +kernel) (Ext.refl _) ?_
      refine wpX_f _ (.pointer (some ⟨b1, 25, none⟩)) rfl rfl (fun X _ => by simp [go_sem]) ?_
      simp only [List.getElem_toArray, List.getElem_cons_zero, Act.put, List.setIfInBounds_toArray, List.set_cons_zero, List.set_cons_succ]
      refine wpX_f _ (.slice (some a1) n k1) rfl rfl (fun X hX => by have m6 : X.cell? ⟨b1, 25, none⟩ = some (.slice (some a1) n k1) := (r1.out.carry hX).1 25 (by decide); simp [go_sem, m6]) ?_
      simp only [List.getElem_toArray, List.getElem_cons_zero, List.getElem_cons_succ, Act.put, List.setIfInBounds_toArray, List.set_cons_zero, List.set_cons_succ]
      refine wpX_f _ (.int .i64 (i : Int)) rfl rfl (fun X _ => by simp [go_sem]) ?_
      simp only [List.getElem_toArray, List.getElem_cons_zero, List.getElem_cons_succ, Act.put, List.setIfInBounds_toArray, List.set_cons_zero, List.set_cons_succ]
      refine wpX_f _ (.pointer (some (a1.add i))) rfl rfl (fun X _ => by simp [go_sem, hi.out]) ?_
      simp only [List.getElem_toArray, List.getElem_cons_zero, List.getElem_cons_succ, Act.put, List.setIfInBounds_toArray, List.set_cons_zero, List.set_cons_succ]
      refine wpX_f _ (.bool (b i)) rfl rfl (fun X hX => xloadB 4 (.tmp 23) rfl (a1.add i) (b i) rfl (hcell1.out X hX) Try.isAgg4) ?_
      simp only [List.getElem_toArray, List.getElem_cons_zero, List.getElem_cons_succ, Act.put, List.setIfInBounds_toArray, List.set_cons_zero, List.set_cons_succ]
      refine wpX_f _ (.pointer (some ⟨b2, 25, none⟩)) rfl rfl (fun X _ => by simp [go_sem]) ?_
      simp only [List.getElem_toArray, List.getElem_cons_zero, List.getElem_cons_succ, Act.put, List.setIfInBounds_toArray, List.set_cons_zero, List.set_cons_succ]
      refine wpX_f _ (.slice (some a2) n k2) rfl rfl (fun X hX => by have m7 : X.cell? ⟨b2, 25, none⟩ = some (.slice (some a2) n k2) := (r2.out.carry hX).1 25 (by decide); simp [go_sem, m7]) ?_
      simp only [List.getElem_toArray, List.getElem_cons_zero, List.getElem_cons_succ, Act.put, List.setIfInBounds_toArray, List.set_cons_zero, List.set_cons_succ]
      refine wpX_f _ (.int .i64 (i : Int)) rfl rfl (fun X _ => by simp [go_sem]) ?_
      simp only [List.getElem_toArray, List.getElem_cons_zero, List.getElem_cons_succ, Act.put, List.setIfInBounds_toArray, List.set_cons_zero, List.set_cons_succ]
      refine wpX_f _ (.pointer (some (a2.add i))) rfl rfl (fun X _ => by simp [go_sem, hi.out]) ?_
      simp only [List.getElem_toArray, List.getElem_cons_zero, List.getElem_cons_succ, Act.put, List.setIfInBounds_toArray, List.set_cons_zero, List.set_cons_succ]
      refine wpX_f _ (.bool (b i)) rfl rfl (fun X hX => xloadB 4 (.tmp 28) rfl (a2.add i) (b i) rfl (hcell2.out X hX) Try.isAgg4) ?_
      simp only [List.getElem_toArray, List.getElem_cons_zero, List.getElem_cons_succ, Act.put, List.setIfInBounds_toArray, List.set_cons_zero, List.set_cons_succ]
      refine wpX_f _ (.bool false) rfl rfl (fun X _ => by simp [go_sem]) ?_
      simp only [List.getElem_toArray, List.getElem_cons_zero, List.getElem_cons_succ, Act.put, List.setIfInBounds_toArray, List.set_cons_zero, List.set_cons_succ]
      refine wpX_nil ?_
      go_upto_region 5 with (fail)
      refine wp_region_lit ?_
      refine xm [some (.int .i64 (i : Int)), some (.int .i64 ((i + 1 : Nat) : Int)), some (.int .i64 ((i + 1 : Nat) : Int))] (by kernel_rfl) (by simp [xr, go_sem, ek]) ?_
      simp only [xw, p0, p1, p2, p3]
      go_wp2
      go_round
      case rel => exact ⟨i + 1, by have := hi.out; omega, rfl, r1.out, r2.out, rL1.out, rL2.out, rE.out⟩
      case measure => have := hi.out; simp [intOf]; omega
    · have hi := hideit hi2
      clear hi2 hin
      go_upto_region 4 with (fail)
      refine wp_region_lit ?_
      have m5 : wr.cell? ⟨b1, 25, none⟩ = some (.slice o1 n k1) := r1.out.1 25 (by decide)
      refine xm [some (.int .i64 (i : Int)), some (.pointer (some ⟨b1, 25, none⟩)), some (.slice o1 n k1), some (.int .i64 (n : Int)), some (.bool false)] (by kernel_rfl) (by simp [xr, go_sem, m5, hi.out]) ?_
      simp only [xw, p0, p1, p2, p3]
      clear m5
      go_upto_region 8 with (fail)
      refine wp_region_lit ?_
      refine xm [some (.pointer (some ⟨b1, 0, none⟩))] (by kernel_rfl) (by simp [xr, go_sem]) ?_
      simp only [xw, p0, p1, p2, p3]
      refine wpList_run rfl (.agg (row 24 (hdv h)).toArray) (xload 37 (.tmp 31) rfl b1 0 24 (hdv h) rfl (r1.out.sub 0 24 (by decide) (hdv h) (fun j hj => by rw [Nat.zero_add]; unfold ifV; rw [if_pos hj])) Try.underlying37 rfl infoH) ?_
      simp only [Act.put, List.setIfInBounds_toArray, List.set_cons_zero, List.set_cons_succ]
      refine xm [some (.pointer (some ⟨b2, 0, none⟩))] (by kernel_rfl) (by simp [xr, go_sem]) ?_
      simp only [xw, p0, p1, p2, p3]
      refine wpList_run rfl (.agg (row 24 (hdv h)).toArray) (xload 37 (.tmp 33) rfl b2 0 24 (hdv h) rfl (r2.out.sub 0 24 (by decide) (hdv h) (fun j hj => by rw [Nat.zero_add]; unfold ifV; rw [if_pos hj])) Try.underlying37 rfl infoH) ?_
      simp only [Act.put, List.setIfInBounds_toArray, List.set_cons_zero, List.set_cons_succ]
      refine wpList_run rfl (.bool true) (xcmp .eql 37 37 (.tmp 32) (.tmp 34) rfl _ _ rfl rfl (by kernel_rfl) _ (eqlH h _)) ?_
      simp only [Act.put, List.setIfInBounds_toArray, List.set_cons_zero, List.set_cons_succ]
      have m6 : wr.cell? ⟨b1, 24, none⟩ = some (.int .i64 (sl)) := r1.out.1 24 (by decide)
      have m7 : wr.cell? ⟨b2, 24, none⟩ = some (.int .i64 (sl)) := r2.out.1 24 (by decide)
      have m8 : wr.cell? ⟨b1, 26, none⟩ = some (.int .i64 (ep)) := r1.out.1 26 (by decide)
      have m9 : wr.cell? ⟨b2, 26, none⟩ = some (.int .i64 (ep)) := r2.out.1 26 (by decide)
      have m10 : wr.cell? ⟨b1, 27, none⟩ = some (.int .i64 (lf)) := r1.out.1 27 (by decide)
      have m11 : wr.cell? ⟨b2, 27, none⟩ = some (.int .i64 (lf)) := r2.out.1 27 (by decide)
      have m12 : wr.cell? ⟨b1, 28, none⟩ = some (.int .u64 (ct.toNat : Int)) := r1.out.1 28 (by decide)
      have m13 : wr.cell? ⟨b2, 28, none⟩ = some (.int .u64 (ct.toNat : Int)) := r2.out.1 28 (by decide)
      refine xm [some (.bool true), some (.pointer (some ⟨b1, 24, none⟩)), some (.int .i64 (sl)), some (.pointer (some ⟨b2, 24, none⟩)), some (.int .i64 (sl)), some (.bool true), some (.bool true), some (.bool true), some (.pointer (some ⟨b1, 26, none⟩)), some (.int .i64 (ep)), some (.pointer (some ⟨b2, 26, none⟩)), some (.int .i64 (ep)), some (.bool true), some (.bool true), some (.bool true), some (.pointer (some ⟨b1, 27, none⟩)), some (.int .i64 (lf)), some (.pointer (some ⟨b2, 27, none⟩)), some (.int .i64 (lf)), some (.bool true), some (.bool true), some (.bool true), some (.pointer (some ⟨b1, 28, none⟩)), some (.int .u64 (ct.toNat : Int)), some (.pointer (some ⟨b2, 28, none⟩)), some (.int .u64 (ct.toNat : Int)), some (.bool true), some (.bool true), some (.bool true)] (by kernel_rfl) (by simp [xr, go_sem, m6, m7, m8, m9, m10, m11, m12, m13]) ?_
      simp only [xw, p0, p1, p2, p3]
      clear m6
      clear m7
      clear m8
      clear m9
      clear m10
      clear m11
      clear m12
      clear m13
      go_wp2
      go_ret
      exact ⟨rfl, rE.out⟩
end Go.Proofs.Ytcipkfalnjgghaa
