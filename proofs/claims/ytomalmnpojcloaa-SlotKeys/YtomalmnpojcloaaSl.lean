/-
  Slots as rows of 81 cells; when two are the same; the block of a slot.
-/
import Derived.Test.YtomalmnpojcloaaWr
import Derived.Test.YtomalmnpojcloaaSEq
import Derived.Laws.Tables
namespace Go.Proofs.Ytomalmnpojcloaa
open Go.RowKit Go.BigFrame
theorem wpList_not {P : Program} {ops : Array Oper} {rest : List Oper} {o : Oper} {a : Act} {Q : Exit → Act → World → Prop} {w : World} (hw : Region.wanted o (yielded ops a.tmps) = false) (h : wpList P ops Q rest (a.put o.dst undef) w) : wpList P ops Q (o :: rest) a w := by
  unfold wpList
  rw [if_neg (by rw [hw]; simp)]
  exact h
theorem ret_row2 {P : Program} {F : Func} {tmps : Array Value} {k k2 : Nat} {t : TypeId} {b n : Nat} {g : Nat → Value} {X : World} {d : TypeDesc} (hF : F.results = #[.cell k t, .tmp k2]) (ht : tmps.getD k undef = .pointer (some ⟨b, 0, none⟩)) (h : RowAt b n g X)
    (hu : P.underlying t = some d) (hd : d.isRow = true) (hi : (P.info? t).map (·.size) = some n) : Sem.run P (results F tmps) X = .ok (.tuple #[.agg (row n g).toArray, tmps.getD k2 undef]) X := by
  have hl := run_loadVar_mid (P := P) X b 0 t (row n g) d h.range hu hd (by rw [row_length]; exact hi)
  unfold results
  rw [hF]
  simp only [List.mapM_toArray, List.mapM_cons, List.mapM_nil, ht]
  simp [asAddr, hl]
theorem wpList_cmp {P : Program} {w : World} {ops : Array Oper} {rest : List Oper} {o : Oper} {a : Act} {Q : Exit → Act → World → Prop} (hw : Region.wanted o (yielded ops a.tmps) = true) (op : BinOp) (t u : TypeId) (x y : Operand) (ho : o.op = .binOp op t x y u) (X Y : Array Value) (hx : a.eval x = .agg X) (hy : a.eval y = .agg Y)
    (hm : P.eqGuardType P.depth t = false) (r : Bool) (hr : (binOp op t (.agg X) (.agg Y)).run P w = .ok (.bool r) w) (h : wpList P ops Q rest (a.put o.dst (.bool r)) w) : wpList P ops Q (o :: rest) a w := by
  refine wpList_runW hw (.bool r) ?_ h
  unfold execOp
  simp only [ho, hx, hy, Sem.run_bind, run_eqGuard_agg (P := P) w op t x y X Y hm, Result.andThen_ok, hr, Sem.run_pure]
/-- a slot: is it taken; its salt, its wrapped key, its tag -/
def slv (a : Bool) (f : Nat → BitVec 8) : Nat → Value := fun j => if j = 0 then .bool a else .int .u8 ((f (j - 1)).toNat : Int)
def zF : Nat → BitVec 8 := fun _ => 0#8
theorem slv_one (a : Bool) (f : Nat → BitVec 8) : ∀ j, j < 81 → (slv a f j).oneCell' = true := fun j _ => by
  unfold slv
  by_cases h : j = 0
  · rw [if_pos h]; rfl
  · rw [if_neg h]; rfl
theorem slv_congr {a : Bool} {f g : Nat → BitVec 8} (h : ∀ j, j < 80 → f j = g j) : row 81 (slv a f) = row 81 (slv a g) := row_ext fun j hj => by
  unfold slv
  by_cases h0 : j = 0
  · rw [if_pos h0, if_pos h0]
  · rw [if_neg h0, if_neg h0, h (j - 1) (by omega)]
theorem info25 : (Try.prog.info? 25).map (·.size) = some 81 := by kernel_rfl
def zk25 : Array Value := (row 81 (slv false zF)).toArray
theorem zero25 (w : World) : (zeroValue 25).run Try.prog w = .ok (.agg zk25) w := by kernel_rfl
theorem exec_alloc {P : Program} {o : Oper} {a : Act} {w : World} (t : TypeId) (Z : Array Value) (ho : o.op = .alloc t) (hz : (zeroValue t).run P w = .ok (.agg Z) w) : (execOp a.eval o).run P w = .ok (.value (.pointer (some ⟨w.heap.size, 0, none⟩))) (w.alloc (.cells Z t)) := by
  unfold execOp
  simp [ho, Instr.alloc, hz, newVar, newRow, Value.cells]
theorem alloc25 {o : Oper} {a : Act} {w : World} (ho : o.op = .alloc 25) : (execOp a.eval o).run Try.prog w = .ok (.value (.pointer (some ⟨w.heap.size, 0, none⟩))) (w.alloc (.cells zk25 25)) := exec_alloc 25 zk25 ho (zero25 w)
theorem build25 (w : World) : (Instr.build 25 #[]).run Try.prog w = .ok (.agg (row 81 (slv false zF)).toArray) w := run_build w 25 #[] _ (by kernel_rfl)
theorem slv_part (a : Bool) (f : Nat → BitVec 8) (off m : Nat) (h : 0 < off) : (row m fun j => slv a f (off + j)) = row m fun j => .int .u8 ((f (off - 1 + j)).toNat : Int) := row_ext fun j _ => by
  unfold slv
  rw [if_neg (by omega), show off + j - 1 = off - 1 + j by omega]
def F0 : Field := { name := "Active", type := 4, offset := 0, embedded := false, tag := "", pkgPath := "", byteOffset := 0 }
def F1 : Field := { name := "Salt", type := 22, offset := 1, embedded := false, tag := "", pkgPath := "", byteOffset := 1 }
def F2 : Field := { name := "Wrapped", type := 23, offset := 17, embedded := false, tag := "", pkgPath := "", byteOffset := 17 }
def F3 : Field := { name := "Tag", type := 23, offset := 49, embedded := false, tag := "", pkgPath := "", byteOffset := 49 }
def eqN (n : Nat) (f g : Nat → BitVec 8) : Bool := decide (∀ j, j < n → f j = g j)
theorem eqN_iff {n : Nat} {f g : Nat → BitVec 8} : eqN n f g = true ↔ ∀ j, j < n → f j = g j := decide_eq_true_iff
theorem eqN_refl (n : Nat) (f : Nat → BitVec 8) : eqN n f f = true := eqN_iff.2 fun _ _ => rfl
theorem equal25 (a b : Bool) (f g : Nat → BitVec 8) (w : World) : (Op.equalIn 10000 25 (.agg (row 81 (slv a f)).toArray) (.agg (row 81 (slv b g)).toArray)).run Try.prog w = (.ok ((a == b) && eqN 80 f g) w : Result Bool) := by
  rw [run_equalIn_struct w 9999 25 _ _ (by kernel_rfl) (by kernel_rfl)]
  have hf : (Try.prog.fieldsOf 25).toList = [F0, F1, F2, F3] := by kernel_rfl
  rw [hf]
  have e1 := equalIn_row (P := Try.prog) 9997 22 5 16 .u8 Try.underlying22 Try.underlying5 Try.sizeOf5 (fun j => ((f (1 - 1 + j)).toNat : Int)) (fun j => ((g (1 - 1 + j)).toNat : Int)) w
  have e2 := equalIn_row (P := Try.prog) 9997 23 5 32 .u8 Try.underlying23 Try.underlying5 Try.sizeOf5 (fun j => ((f (17 - 1 + j)).toNat : Int)) (fun j => ((g (17 - 1 + j)).toNat : Int)) w
  have e3 := equalIn_row (P := Try.prog) 9997 23 5 32 .u8 Try.underlying23 Try.underlying5 Try.sizeOf5 (fun j => ((f (49 - 1 + j)).toNat : Int)) (fun j => ((g (49 - 1 + j)).toNat : Int)) w
  rw [← slv_part a f 1 16 (by decide), ← slv_part b g 1 16 (by decide)] at e1
  rw [← slv_part a f 17 32 (by decide), ← slv_part b g 17 32 (by decide)] at e2
  rw [← slv_part a f 49 32 (by decide), ← slv_part b g 49 32 (by decide)] at e3
  have r := eqFields_cons 9999 (row 81 (slv a f)).toArray (row 81 (slv b g)).toArray F0 _ (.bool a) (.bool b) _ _ w (by decide) (part_one (Try.isAgg4 w) (by decide)) (part_one (Try.isAgg4 w) (by decide)) (run_equalIn_bool' w 9998 4 a b Try.underlying4)
    (eqFields_cons 9999 _ _ F1 _ _ _ _ _ w (by decide) (part_arr (Try.isAgg22 w) (Try.sizeOf22 w) (by decide)) (part_arr (Try.isAgg22 w) (Try.sizeOf22 w) (by decide)) e1
    (eqFields_cons 9999 _ _ F2 _ _ _ _ _ w (by decide) (part_arr (Try.isAgg23 w) (Try.sizeOf23 w) (by decide)) (part_arr (Try.isAgg23 w) (Try.sizeOf23 w) (by decide)) e2
    (eqFields_cons 9999 _ _ F3 _ _ _ _ _ w (by decide) (part_arr (Try.isAgg23 w) (Try.sizeOf23 w) (by decide)) (part_arr (Try.isAgg23 w) (Try.sizeOf23 w) (by decide)) e3 (eqFields_nil _ _ _ w))))
  rw [r, all_iff 16 (fun j => f (1 - 1 + j)) (fun j => g (1 - 1 + j)), all_iff 32 (fun j => f (17 - 1 + j)) (fun j => g (17 - 1 + j)), all_iff 32 (fun j => f (49 - 1 + j)) (fun j => g (49 - 1 + j))]
  congr 1
  rw [Bool.eq_iff_iff]
  simp only [Bool.and_eq_true, beq_iff_eq, decide_eq_true_iff, and_true, eqN_iff]
  constructor
  · rintro ⟨h0, h1, h2, h3⟩
    refine ⟨h0, fun j hj => ?_⟩
    by_cases c1 : j < 16
    · have := h1 j c1
      rwa [show 1 - 1 + j = j by omega] at this
    · by_cases c2 : j < 48
      · have := h2 (j - 16) (by omega)
        rwa [show 17 - 1 + (j - 16) = j by omega] at this
      · have := h3 (j - 48) (by omega)
        rwa [show 49 - 1 + (j - 48) = j by omega] at this
  · rintro ⟨h0, h1⟩
    exact ⟨h0, fun j hj => h1 _ (by omega), fun j hj => h1 _ (by omega), fun j hj => h1 _ (by omega)⟩
theorem eql25 (a b : Bool) (f g : Nat → BitVec 8) (w : World) : (binOp .eql 25 (.agg (row 81 (slv a f)).toArray) (.agg (row 81 (slv b g)).toArray)).run Try.prog w = .ok (.bool ((a == b) && eqN 80 f g)) w := by
  rw [run_eql_struct, equal25]; rfl
theorem neq25 (a b : Bool) (f g : Nat → BitVec 8) (w : World) : (binOp .neq 25 (.agg (row 81 (slv a f)).toArray) (.agg (row 81 (slv b g)).toArray)).run Try.prog w = .ok (.bool (!((a == b) && eqN 80 f g))) w := by
  rw [run_neq_struct, equal25]; rfl
theorem add_none (c o j : Nat) : (⟨c, o, none⟩ : Addr).add j = ⟨c, o + j, none⟩ := by
  unfold Addr.add
  by_cases h : j = 0
  · subst h; rw [if_pos rfl]; rfl
  · rw [if_neg h]
/-- bytes within a slot -/
theorem slot_bytes {c : Nat} {a : Bool} {f : Nat → BitVec 8} {w : World} (h : RowAt c 81 (slv a f) w) (o m : Nat) (hm : 1 + o + m ≤ 81) : BV (.slice (some ⟨c, 1 + o, none⟩) m m) m (fun j => f (o + j)) w :=
  .inr ⟨_, m, rfl, Nat.le_refl _, fun j hj => by
    rw [add_none, h.1 (1 + o + j) (by omega)]
    unfold slv yv
    rw [if_neg (by omega), show 1 + o + j - 1 = o + j by omega], h.2.2⟩
/-- the bytes of a slot's block -/
def slF (f : Nat → BitVec 8) (j : Nat) : BitVec 8 := if j < 4 then bT [83, 76, 79, 84] j else f (j - 4)
theorem cat_sl (f : Nat → BitVec 8) (o : Nat) (j : Nat) : catF (slF f) (4 + o) (fun i => f (o + i)) j = slF f j := by
  unfold catF slF
  by_cases h : j < 4 + o
  · rw [if_pos h]
  · rw [if_neg h, if_neg (by omega)]
    show f (o + (j - (4 + o))) = _
    rw [show o + (j - (4 + o)) = j - 4 by omega]
theorem cat_sl0 (g f : Nat → BitVec 8) (j : Nat) (hj : j < 4) : catF g 0 (bT [83, 76, 79, 84]) j = slF f j := by
  unfold catF slF
  rw [if_neg (by omega), if_pos hj, Nat.sub_zero]
set_option maxRecDepth 20000 in
set_option maxHeartbeats 2000000 in
theorem enc_act (f : Nat → BitVec 8) (w : World) :
    Calls Try.prog 8 #[.agg (row 81 (slv true f)).toArray] w fun e w' => ∃ g, e = .returned (.tuple #[.slice (some ⟨g, 0, none⟩) 512 512, .int .i64 0]) ∧ w.heap.size ≤ g ∧ RowAt g 512 (yv (padF (slF f) 84)) w' ∧ Ext w w' := by
  have H0 : Hid (RowAt w.heap.size 81 (slv true f) (w.alloc (.cells (row 81 (slv true f)).toArray 25))) := RowAt.new w 81 _ 25
  have hE0 : Hid (Ext w (w.alloc (.cells (row 81 (slv true f)).toArray 25))) := (Below.refl _ _).alloc (Nat.le_refl _) _
  go_enter Try.func8, Try.ntmps8
  go_upto_region 1 with (fail)
  obtain ⟨w1, hw1⟩ : ∃ w1, w1 = w.alloc (.cells (row 81 (slv true f)).toArray 25) := ⟨_, rfl⟩
  rw [← hw1] at H0 hE0 ⊢
  clear hw1
  obtain ⟨c, hc⟩ : ∃ c, c = w.heap.size := ⟨_, rfl⟩
  rw [← hc] at H0 ⊢
  replace hc := hideit hc
  have e0 : w1.cell? ⟨c, 0, none⟩ = some (.bool true) := H0.out.1 0 (by decide)
  go_upto_region 4 with (go_at_call 20; refine (neww_any 512 (fun _ => 0#8) _ (by omega)).mono ?_; rintro e w2 ⟨rfl, hW2, hE2⟩; replace hW2 := hideit hW2; replace hE2 := hideit hE2)
  obtain ⟨d, hd⟩ : ∃ d, d = w1.heap.size := ⟨_, rfl⟩
  have hcd : c < d := by rw [hd]; exact H0.out.2.2
  rw [← hd] at hW2 ⊢
  have H2 := hideit (H0.out.carry hE2.out)
  have hE02 := hideit (Ext.trans hE0.out hE2.out)
  have hdw : Hid (w.heap.size < d) := by rw [← hc.out]; exact hcd
  clear e0 hd H0 hE2 hE0
  replace hcd := hideit hcd
  have e0 : w2.cell? ⟨c, 0, none⟩ = some (.bool true) := H2.out.1 0 (by decide)
  go_upto_region 5 with (fail)
  obtain ⟨x3, hcv3, hB3, hE3⟩ := constB w2 #[.int .u8 83, .int .u8 76, .int .u8 79, .int .u8 84] 4 (bT [83, 76, 79, 84]) (fun j hj => by
    rcases (by omega : j = 0 ∨ j = 1 ∨ j = 2 ∨ j = 3) with rfl | rfl | rfl | rfl <;> rfl)
  refine wp_region_lit ?_
  refine wpList_run rfl (.pointer (some ⟨d, 0, none⟩)) (by simp [go_sem]) ?_
  simp only [Act.put, List.setIfInBounds_toArray, List.set_cons_zero, List.set_cons_succ]
  refine wpList_to rfl (.slice (some ⟨w2.heap.size, 0, none⟩) 4 4) (w2.alloc (.cells #[.int .u8 83, .int .u8 76, .int .u8 79, .int .u8 84] 5)) (by simp [go_sem]) ?_
  simp only [Act.put, List.setIfInBounds_toArray, List.set_cons_zero, List.set_cons_succ]
  refine wpList_to rfl (.slice (some ⟨w2.heap.size, 0, none⟩) 4 4) (x3) (by simp [go_sem, hcv3]) ?_
  simp only [Act.put, List.setIfInBounds_toArray, List.set_cons_zero, List.set_cons_succ]
  have hW3 := hideit (hW2.out.ext hE3)
  have H3 := hideit (H2.out.carry hE3)
  have hE03 := hideit (Ext.trans hE02.out hE3)
  replace hB3 := hideit hB3
  clear hW2 H2 hE02 hE3 hcv3 e0
  refine wpList_call rfl (by simp [go_sem]; exact ⟨rfl, rfl⟩) ?_
  refine (wbytes_ok d 512 0 4 _ (bT [83, 76, 79, 84]) false _ x3 hW3.out (by decide) (by decide) hB3.out).mono ?_
  rintro e w4 ⟨rfl, hW4, hE4⟩
  refine ⟨_, rfl, ?_⟩
  simp only [Act.put, List.setIfInBounds_toArray, List.set_cons_zero, List.set_cons_succ]
  have hW4' := hideit (hW4.congr (g := slF f) fun j hj => cat_sl0 _ f j (by omega))
  have H4 := hideit (RowAt.belowB H3.out hcd.out hE4)
  have hE04 := hideit (Below.trans hE03.out (Below.mono hE4 (Nat.le_of_lt hdw.out)))
  clear hW3 H3 hE03 hE4 hB3 hW4
  have hB := hideit (slot_bytes H4.out 0 16 (by decide))
  go_upto_region 7 with (go_at_call 21; refine (wbytes_ok d 512 4 16 (slF f) (fun j => f (0 + j)) false _ _ hW4'.out (by decide) (by decide) hB.out).mono ?_; rintro e w5 ⟨rfl, hW5, hE5⟩; replace hW5 := hideit hW5; replace hE5 := hideit hE5)
  have hW5' : Hid (Wr d 512 20 (slF f) false w5) := hideit (hW5.out.congr (g := slF f) fun j hj => cat_sl f 0 j)
  have H5 := hideit (RowAt.belowB H4.out hcd.out hE5.out)
  have hE05 := hideit (Below.trans hE04.out (Below.mono hE5.out (Nat.le_of_lt hdw.out)))
  clear hW4' H4 hE04 hE5 hB hW5
  have hB := hideit (slot_bytes H5.out 16 32 (by decide))
  go_upto_region 8 with (go_at_call 21; refine (wbytes_ok d 512 20 32 (slF f) (fun j => f (16 + j)) false _ _ hW5'.out (by decide) (by decide) hB.out).mono ?_; rintro e w6 ⟨rfl, hW6, hE6⟩; replace hW6 := hideit hW6; replace hE6 := hideit hE6)
  have hW6' : Hid (Wr d 512 52 (slF f) false w6) := hideit (hW6.out.congr (g := slF f) fun j hj => cat_sl f 16 j)
  have H6 := hideit (RowAt.belowB H5.out hcd.out hE6.out)
  have hE06 := hideit (Below.trans hE05.out (Below.mono hE6.out (Nat.le_of_lt hdw.out)))
  clear hW5' H5 hE05 hE6 hB hW6
  have hB := hideit (slot_bytes H6.out 48 32 (by decide))
  go_upto_region 9 with (go_at_call 21; refine (wbytes_ok d 512 52 32 (slF f) (fun j => f (48 + j)) false _ _ hW6'.out (by decide) (by decide) hB.out).mono ?_; rintro e w7 ⟨rfl, hW7, hE7⟩; replace hW7 := hideit hW7; replace hE7 := hideit hE7)
  have hW7' : Hid (Wr d 512 84 (slF f) false w7) := hideit (hW7.out.congr (g := slF f) fun j hj => cat_sl f 48 j)
  have H7 := hideit (RowAt.belowB H6.out hcd.out hE7.out)
  have hE07 := hideit (Below.trans hE06.out (Below.mono hE7.out (Nat.le_of_lt hdw.out)))
  clear hW6' H6 hE06 hE7 hB hW7
  go_wp2_with (go_at_call 22; refine (wdone_ok d 512 84 (slF f) _ hW7'.out (by decide) (by decide)).mono ?_; rintro e w8 ⟨g, rfl, hg8, hR8, hE8⟩; replace hR8 := hideit hR8; replace hE8 := hideit hE8)
  go_ret2
  exact ⟨g, rfl, Nat.le_trans (Below.size hE07.out) hg8, hR8.out, Ext.trans hE07.out hE8.out⟩
end Go.Proofs.Ytomalmnpojcloaa
