/-
  When keys are the same.
-/
import Derived.Test.YtomalmnpojcloaaKy8
namespace Go.Proofs.Ytomalmnpojcloaa
open Go.RowKit Go.BigFrame
theorem epv_part (x : Int) (f : Nat → BitVec 8) : (row 64 fun j => epv x f (1 + j)) = row 64 fun j => .int .u8 ((f j).toNat : Int) := row_ext fun j _ => by
  unfold epv
  rw [if_neg (by omega), Nat.add_sub_cancel_left]
def E0 : Field := { name := "Epoch", type := 3, offset := 0, embedded := false, tag := "", pkgPath := "", byteOffset := 0 }
def E1 : Field := { name := "Wrapped", type := 49, offset := 1, embedded := false, tag := "", pkgPath := "", byteOffset := 8 }
theorem equal51 (x y : Int) (f g : Nat → BitVec 8) (w : World) : (Op.equalIn 10000 51 (.agg (row 65 (epv x f)).toArray) (.agg (row 65 (epv y g)).toArray)).run Try.prog w = .ok ((x == y) && eqN 64 f g) w := by
  rw [run_equalIn_struct w 9999 51 _ _ (by kernel_rfl) (by kernel_rfl)]
  have hf : (Try.prog.fieldsOf 51).toList = [E0, E1] := by kernel_rfl
  rw [hf]
  have e1 := equalIn_row (P := Try.prog) 9997 49 5 64 .u8 Try.underlying49 Try.underlying5 Try.sizeOf5 (fun j => ((f j).toNat : Int)) (fun j => ((g j).toNat : Int)) w
  rw [← epv_part x f, ← epv_part y g] at e1
  have r := eqFields_cons 9999 (row 65 (epv x f)).toArray (row 65 (epv y g)).toArray E0 _ (.int .i64 x) (.int .i64 y) _ _ w (by decide) (part_one (Try.isAgg3 w) (by decide)) (part_one (Try.isAgg3 w) (by decide)) (run_equalIn_int w 9998 3 .i64 .i64 x y Try.underlying3)
    (eqFields_cons 9999 _ _ E1 _ _ _ _ _ w (by decide) (part_arr (Try.isAgg49 w) (Try.sizeOf49 w) (by decide)) (part_arr (Try.isAgg49 w) (Try.sizeOf49 w) (by decide)) e1 (eqFields_nil _ _ _ w))
  rw [r, all_iff 64 f g, Bool.and_true]
  rfl
theorem neq51 (x : Int) (f g : Nat → BitVec 8) (h : ∀ j, j < 64 → f j = g j) (w : World) : (binOp .neq 51 (.agg (row 65 (epv x f)).toArray) (.agg (row 65 (epv x g)).toArray)).run Try.prog w = .ok (.bool false) w := by
  rw [run_neq_struct, equal51, eqN_iff.2 h]
  simp
theorem neq23 (f g : Nat → BitVec 8) (h : ∀ j, j < 32 → f j = g j) (w : World) : (binOp .neq 23 (.agg (row 32 (yv f)).toArray) (.agg (row 32 (yv g)).toArray)).run Try.prog w = .ok (.bool false) w := by
  rw [run_neq_struct]
  have e1 := equalIn_row (P := Try.prog) 9998 23 5 32 .u8 Try.underlying23 Try.underlying5 Try.sizeOf5 (fun j => ((f j).toNat : Int)) (fun j => ((g j).toNat : Int)) w
  rw [all_iff 32 f g, decide_eq_true h] at e1
  show ((Op.equalIn (9998 + 2) 23 (.agg (row 32 fun j => .int .u8 ((f j).toNat : Int)).toArray) (.agg (row 32 fun j => .int .u8 ((g j).toNat : Int)).toArray)).run Try.prog w).andThen _ = _
  rw [e1]
  rfl
theorem ky_range {c : Nat} {v : Value} {t : Nat → BitVec 8} {w : World} (h : RowAt c 33 (kyv v t) w) : w.rangeAt c 1 (row 32 (yv t)) := fun j x hx => by
  obtain ⟨hj, rfl⟩ := row_some hx
  rw [h.1 (1 + j) (by omega)]
  unfold kyv yv
  rw [if_neg (by omega), Nat.add_sub_cancel_left]
theorem info23 : (Try.prog.info? 23).map (·.size) = some 32 := by kernel_rfl
theorem exec_loadR {P : Program} {o : Oper} {a : Act} {w : World} (t : TypeId) (x : Operand) (ho : o.op = .load t x) (b off n : Nat) (g : Nat → Value) {d : TypeDesc} (hx : a.eval x = .pointer (some ⟨b, off, none⟩)) (h : w.rangeAt b off (row n g))
    (hu : P.underlying t = some d) (hd : d.isRow = true) (hi : (P.info? t).map (·.size) = some n) : (execOp a.eval o).run P w = .ok (.value (.agg (row n g).toArray)) w := by
  unfold execOp
  simp only [ho, hx, Instr.loadAt, Instr.sureAddr, Sem.run_bind, Sem.run_pure, Result.andThen_ok, run_loadVar_mid (P := P) w b off t (row n g) _ h hu hd (by rw [row_length]; exact hi)]
theorem exec_cmp {P : Program} {o : Oper} {a : Act} {w : World} (op : BinOp) (t u : TypeId) (x y : Operand) (ho : o.op = .binOp op t x y u) (X Y : Array Value) (hx : a.eval x = .agg X) (hy : a.eval y = .agg Y)
    (hm : P.eqGuardType P.depth t = false) (r : Bool) (hr : (binOp op t (.agg X) (.agg Y)).run P w = .ok (.bool r) w) : (execOp a.eval o).run P w = .ok (.value (.bool r)) w := by
  unfold execOp
  simp only [ho, hx, hy, Sem.run_bind, run_eqGuard_agg (P := P) w op t x y X Y hm, Result.andThen_ok, hr, Sem.run_pure]
set_option maxRecDepth 20000 in
set_option maxHeartbeats 2000000 in
theorem same_ok (u v : Value) (n : Nat) (xs : Nat → Int) (fs gs : Nat → Nat → BitVec 8) (t s : Nat → BitVec 8) (w : World) (hu : EV u n xs fs w) (hv : EV v n xs gs w) (hts : ∀ j, j < 32 → t j = s j) (hfg : ∀ i, i < n → ∀ j, j < 64 → fs i j = gs i j) (hn : n ≤ 9223372036854775807) :
    Calls Try.prog 17 #[.agg (row 33 (kyv u t)).toArray, .agg (row 33 (kyv v s)).toArray] w fun e w' => e = .returned (.bool true) ∧ Ext w w' := by
  have A1 : RowAt w.heap.size 33 (kyv u t) ((w.alloc (.cells (row 33 (kyv u t)).toArray 37)).alloc (.cells (row 33 (kyv v s)).toArray 37)) := (RowAt.new w 33 _ 37).alloc _
  have A2 : RowAt (w.heap.size + 1) 33 (kyv v s) ((w.alloc (.cells (row 33 (kyv u t)).toArray 37)).alloc (.cells (row 33 (kyv v s)).toArray 37)) := by
    have := RowAt.new (w.alloc (.cells (row 33 (kyv u t)).toArray 37)) 33 (kyv v s) 37
    simpa using this
  have hE : Ext w ((w.alloc (.cells (row 33 (kyv u t)).toArray 37)).alloc (.cells (row 33 (kyv v s)).toArray 37)) := ((Below.refl _ _).alloc (Nat.le_refl _) _).alloc (by simp) _
  have U1 := hideit (hu.ext hE)
  have V1 := hideit (hv.ext hE)
  replace A1 := hideit A1
  replace A2 := hideit A2
  replace hE := hideit hE
  have hn' : (n : Int) ≤ 9223372036854775807 := by omega
  have hn0 : (0 : Int) ≤ (n : Int) := by omega
  replace hts := hideit hts
  replace hfg := hideit hfg
  obtain ⟨ua, uc, rfl⟩ := hu.form
  obtain ⟨va, vc, rfl⟩ := hv.form
  clear hu hv
  go_enter Try.func17, Try.ntmps17
  go_upto_region 1 with (fail)
  generalize (w.alloc (.cells (row 33 (kyv (.slice ua n uc) t)).toArray 37)).alloc (.cells (row 33 (kyv (.slice va n vc) s)).toArray 37) = w1 at *
  obtain ⟨p, hp⟩ : ∃ p, p = w.heap.size := ⟨_, rfl⟩
  rw [← hp] at A1 A2 ⊢
  clear hp
  have e1 : w1.cell? ⟨p, 0, none⟩ = some (.slice ua n uc) := A1.out.1 0 (by decide)
  have e2 : w1.cell? ⟨p + 1, 0, none⟩ = some (.slice va n vc) := A2.out.1 0 (by decide)
  have hnq := neq23 t s hts.out w1
  refine wp_region_lit ?_
  refine wpList_run rfl (.pointer (some ⟨p, 0, none⟩)) (by simp [go_sem]) ?_
  simp only [Act.put, List.setIfInBounds_toArray, List.set_cons_zero, List.set_cons_succ]
  refine wpList_run rfl (.slice ua n uc) (by simp [go_sem, e1]) ?_
  simp only [Act.put, List.setIfInBounds_toArray, List.set_cons_zero, List.set_cons_succ]
  refine wpList_run rfl (.int .i64 (n : Int)) (by simp [go_sem]) ?_
  simp only [Act.put, List.setIfInBounds_toArray, List.set_cons_zero, List.set_cons_succ]
  refine wpList_run rfl (.pointer (some ⟨p + 1, 0, none⟩)) (by simp [go_sem]) ?_
  simp only [Act.put, List.setIfInBounds_toArray, List.set_cons_zero, List.set_cons_succ]
  refine wpList_run rfl (.slice va n vc) (by simp [go_sem, e2]) ?_
  simp only [Act.put, List.setIfInBounds_toArray, List.set_cons_zero, List.set_cons_succ]
  refine wpList_run rfl (.int .i64 (n : Int)) (by simp [go_sem]) ?_
  simp only [Act.put, List.setIfInBounds_toArray, List.set_cons_zero, List.set_cons_succ]
  refine wpList_run rfl (.bool false) (by simp [go_sem]) ?_
  simp only [Act.put, List.setIfInBounds_toArray, List.set_cons_zero, List.set_cons_succ]
  refine wpList_run rfl (.bool false) (by simp [go_sem]) ?_
  simp only [Act.put, List.setIfInBounds_toArray, List.set_cons_zero, List.set_cons_succ]
  refine wpList_runW rfl (.pointer (some ⟨p, 1, none⟩)) (by simp [go_sem]) ?_
  simp only [Act.put, List.setIfInBounds_toArray, List.set_cons_zero, List.set_cons_succ]
  refine wpList_ungrd rfl ?_
  refine wpList_load_mid rfl 23 (.tmp 14) rfl p 1 rfl (row 32 (yv t)) _ (ky_range A1.out) Try.underlying23 rfl (by rw [row_length]; exact info23) ?_
  simp only [Act.put, List.setIfInBounds_toArray, List.set_cons_zero, List.set_cons_succ]
  refine wpList_runW rfl (.pointer (some ⟨p + 1, 1, none⟩)) (by simp [go_sem]) ?_
  simp only [Act.put, List.setIfInBounds_toArray, List.set_cons_zero, List.set_cons_succ]
  refine wpList_ungrd rfl ?_
  refine wpList_load_mid rfl 23 (.tmp 16) rfl (p + 1) 1 rfl (row 32 (yv s)) _ (ky_range A2.out) Try.underlying23 rfl (by rw [row_length]; exact info23) ?_
  simp only [Act.put, List.setIfInBounds_toArray, List.set_cons_zero, List.set_cons_succ]
  refine wpList_cmp rfl .neq 23 23 (.tmp 15) (.tmp 17) rfl _ _ rfl rfl (by kernel_rfl) false hnq ?_
  simp only [Act.put, List.setIfInBounds_toArray, List.set_cons_zero, List.set_cons_succ]
  refine wpList_run rfl (.bool false) (by simp [go_sem]) ?_
  simp only [Act.put, List.setIfInBounds_toArray, List.set_cons_zero, List.set_cons_succ]
  clear hnq e1 e2
  go_upto_region 3 with (fail)
  go_wp2
  go_loopw [5] (fun iv wr => ∃ i : Nat, i ≤ n ∧ iv = .int .i64 (i : Int) ∧ Ext w1 wr) (fun iv _ => n - (intOf iv).toNat)
  case atStart => exact ⟨0, by omega, rfl, Ext.refl _⟩
  case round =>
    obtain ⟨i, hi, rfl, hX⟩ := hrel
    have U2 := hideit (U1.out.ext hX)
    have V2 := hideit (V1.out.ext hX)
    have B1 := hideit (A1.out.carry hX)
    have B2 := hideit (A2.out.carry hX)
    have hX9 := hideit hX
    clear hX
    have e1 : wr.cell? ⟨p, 0, none⟩ = some (.slice ua n uc) := B1.out.1 0 (by decide)
    by_cases hlt : i < n
    · have i0 : (0 : Int) ≤ (i : Int) := by omega
      have i1 : (i : Int) < (n : Int) := by omega
      rcases U2.out with ⟨_, h0⟩ | ⟨a, o, cap, h1, h2, h3⟩
      · omega
      injection h1 with h1 _ _
      subst h1
      rcases V2.out with ⟨_, h0⟩ | ⟨a', o', cap', h1', h2', h3'⟩
      · omega
      injection h1' with h1' _ _
      subst h1'
      go_upto_region 6 with (fail)
      clear e1
      have hC0 : Ext wr wr.drew := (Ext.refl wr).draw
      refine wp_region_lad (fun X => Ext wr X) [(false, 0), (false, 1), (false, 2), (false, 3), (false, 4), (false, 5), (false, 6), (false, 7), (false, 8), (false, 9), (false, 10)] (by kernel_rfl) (by kernel_rfl) (by decide +kernel) (by decide +kernel) (by decide +kernel) (by decide +kernel) hC0 ?_
      refine wpX_f _ (.pointer (some ⟨p, 0, none⟩)) rfl rfl (fun X _ => by simp [go_sem]) ?_
      simp only [List.getElem_toArray, List.getElem_cons_zero, Act.put, List.setIfInBounds_toArray, List.set_cons_zero, List.set_cons_succ]
      refine wpX_f _ (.slice (some ⟨a, o, none⟩) n uc) rfl rfl (fun X hX => by simp [go_sem, show X.cell? ⟨p, 0, none⟩ = some (.slice (some ⟨a, o, none⟩) n uc) from (B1.out.carry hX).1 0 (by decide)]) ?_
      simp only [List.getElem_toArray, List.getElem_cons_zero, List.getElem_cons_succ, Act.put, List.setIfInBounds_toArray, List.set_cons_zero, List.set_cons_succ]
      refine wpX_f _ (.int .i64 (i : Int)) rfl rfl (fun X _ => by simp [go_sem]) ?_
      simp only [List.getElem_toArray, List.getElem_cons_zero, List.getElem_cons_succ, Act.put, List.setIfInBounds_toArray, List.set_cons_zero, List.set_cons_succ]
      refine wpX_f _ (.pointer (some ⟨a, o + i * 65, none⟩)) rfl rfl (fun X _ => by simp [go_sem, i0, i1]) ?_
      simp only [List.getElem_toArray, List.getElem_cons_zero, List.getElem_cons_succ, Act.put, List.setIfInBounds_toArray, List.set_cons_zero, List.set_cons_succ]
      refine wpX_f _ (.agg (row 65 (epv (xs i) (fs i))).toArray) rfl rfl (fun X hX => exec_loadR 51 (.tmp 30) rfl a (o + i * 65) 65 (epv (xs i) (fs i)) rfl ((h3.ext hX).range i hlt) Try.underlying51 rfl info51) ?_
      simp only [List.getElem_toArray, List.getElem_cons_zero, List.getElem_cons_succ, Act.put, List.setIfInBounds_toArray, List.set_cons_zero, List.set_cons_succ]
      refine wpX_f _ (.pointer (some ⟨p + 1, 0, none⟩)) rfl rfl (fun X _ => by simp [go_sem]) ?_
      simp only [List.getElem_toArray, List.getElem_cons_zero, List.getElem_cons_succ, Act.put, List.setIfInBounds_toArray, List.set_cons_zero, List.set_cons_succ]
      refine wpX_f _ ((.slice (some ⟨a', o', none⟩) n vc)) rfl rfl (fun X hX => by simp [go_sem, show X.cell? ⟨p + 1, 0, none⟩ = some (.slice (some ⟨a', o', none⟩) n vc) from (B2.out.carry hX).1 0 (by decide)]) ?_
      simp only [List.getElem_toArray, List.getElem_cons_zero, List.getElem_cons_succ, Act.put, List.setIfInBounds_toArray, List.set_cons_zero, List.set_cons_succ]
      refine wpX_f _ (.int .i64 (i : Int)) rfl rfl (fun X _ => by simp [go_sem]) ?_
      simp only [List.getElem_toArray, List.getElem_cons_zero, List.getElem_cons_succ, Act.put, List.setIfInBounds_toArray, List.set_cons_zero, List.set_cons_succ]
      refine wpX_f _ ((.pointer (some ⟨a', o' + i * 65, none⟩))) rfl rfl (fun X _ => by simp [go_sem, i0, i1]) ?_
      simp only [List.getElem_toArray, List.getElem_cons_zero, List.getElem_cons_succ, Act.put, List.setIfInBounds_toArray, List.set_cons_zero, List.set_cons_succ]
      refine wpX_f _ (.agg (row 65 (epv (xs i) (gs i))).toArray) rfl rfl (fun X hX => exec_loadR 51 (.tmp 35) rfl a' (o' + i * 65) 65 (epv (xs i) (gs i)) rfl ((h3'.ext hX).range i hlt) Try.underlying51 rfl info51) ?_
      simp only [List.getElem_toArray, List.getElem_cons_zero, List.getElem_cons_succ, Act.put, List.setIfInBounds_toArray, List.set_cons_zero, List.set_cons_succ]
      refine wpX_f _ (.bool false) rfl rfl (fun X hX => exec_cmp .neq 51 51 (.tmp 31) (.tmp 36) rfl _ _ rfl rfl (by kernel_rfl) false (neq51 (xs i) (fs i) (gs i) (hfg.out i hlt) X)) ?_
      simp only [List.getElem_toArray, List.getElem_cons_zero, List.getElem_cons_succ, Act.put, List.setIfInBounds_toArray, List.set_cons_zero, List.set_cons_succ]
      refine wpX_nil ?_
      go_wp2
      exact ⟨⟨i + 1, by omega, by go_num, Ext.trans hX9.out hC0⟩, by simp [intOf]; omega⟩
    · have i1 : ¬ (i : Int) < (n : Int) := by omega
      go_wp2
      go_ret
      exact ⟨rfl, Ext.trans hE.out hX9.out⟩
end Go.Proofs.Ytomalmnpojcloaa
