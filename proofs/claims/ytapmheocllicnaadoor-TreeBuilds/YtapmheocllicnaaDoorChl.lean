/-
  A child's digest in a node: read, and written; whether a path may be; a clone.
-/
import Derived.Test.YtapmheocllicnaaDoorLvl
import Derived.Test.YtapmheocllicnaaDoorGrowV
import Derived.Test.YtapmheocllicnaaDoorSEq
import Derived.Test.YtapmheocllicnaaDoorLad
import Derived.Lib.BufferMore
namespace Go.Proofs.YtapmheocllicnaaDoor
open Go.RowKit Go.BigFrame
theorem exec_loadR {P : Program} {o : Oper} {a : Act} {w : World} (t : TypeId) (x : Operand) (ho : o.op = .load t x) (b off n : Nat) (g : Nat → Value) {d : TypeDesc} (hx : a.eval x = .pointer (some ⟨b, off, none⟩)) (h : w.rangeAt b off (row n g))
    (hu : P.underlying t = some d) (hd : d.isRow = true) (hi : (P.info? t).map (·.size) = some n) : (execOp a.eval o).run P w = .ok (.value (.agg (row n g).toArray)) w := by
  unfold execOp
  simp only [ho, hx, Instr.loadAt, Instr.sureAddr, Sem.run_bind, Sem.run_pure, Result.andThen_ok, run_loadVar_mid (P := P) w b off t (row n g) _ h hu hd (by rw [row_length]; exact hi)]
def eqN (n : Nat) (f g : Nat → BitVec 8) : Bool := decide (∀ j, j < n → f j = g j)
theorem eqN_iff {n : Nat} {f g : Nat → BitVec 8} : eqN n f g = true ↔ ∀ j, j < n → f j = g j := decide_eq_true_iff
theorem neq25 (f g : Nat → BitVec 8) (w : World) : (binOp .neq 25 (.agg (row 32 (yv f)).toArray) (.agg (row 32 (yv g)).toArray)).run Tryd.prog w = .ok (.bool (!(eqN 32 f g))) w := by
  have e := equalIn_row (P := Tryd.prog) 9998 25 5 32 .u8 Tryd.underlying25 Tryd.underlying5 Tryd.sizeOf5 (fun j => ((f j).toNat : Int)) (fun j => ((g j).toNat : Int)) w
  rw [all_iff] at e
  rw [run_neq_struct]
  show ((Op.equalIn (9998 + 2) 25 (.agg (row 32 fun j => .int .u8 ((f j).toNat : Int)).toArray) (.agg (row 32 fun j => .int .u8 ((g j).toNat : Int)).toArray)).run Tryd.prog w).andThen _ = _
  rw [e]
  rfl
theorem exec_cmp {P : Program} {o : Oper} {a : Act} {w : World} (op : BinOp) (t u : TypeId) (x y : Operand) (ho : o.op = .binOp op t x y u) (X Y : Array Value) (hx : a.eval x = .agg X) (hy : a.eval y = .agg Y)
    (hm : P.eqGuardType P.depth t = false) (r : Bool) (hr : (binOp op t (.agg X) (.agg Y)).run P w = .ok (.bool r) w) : (execOp a.eval o).run P w = .ok (.value (.bool r)) w := by
  unfold execOp
  simp only [ho, hx, hy, Sem.run_bind, run_eqGuard_agg (P := P) w op t x y X Y hm, Result.andThen_ok, hr, Sem.run_pure]
theorem exec_copy {P : Program} {w : World} {o : Oper} {a : Act} (d s : Operand) (dT sT : TypeId)
    (ho : o.op = .call { callee := .builtin .copy, args := #[d, s], argTypes := #[dT, sT] }) (elem : TypeId) (hu : P.underlying dT = some (.slice elem)) (hsz : (P.info? elem).map (·.size) = some 1)
    (b n : Nat) (g : Nat → Value) (hR : RowAt b n g w) (off dLen dCap : Nat) (ad : Addr) (sLen sCap : Nat) (hd : a.eval d = .slice (some ⟨b, off, none⟩) dLen dCap) (hs : a.eval s = .slice (some ad) sLen sCap)
    (m : Nat) (u : Nat → Value) (hn : m = Nat.min sLen dLen) (hsrc : ∀ j, j < m → w.cell? (ad.add j) = some (u j)) (hfit : off + m ≤ n) (h1 : ∀ j, j < m → (u j).oneCell' = true) : (execOp a.eval o).run P w = .ok (.value (goInt m)) (w.setCells b off (row m u)) := by
  have hrun := run_copy_cells (P := P) w dT sT o.type elem b off dLen dCap ad sLen sCap (row m u) hu hsz (by rw [row_length]; exact hn) (fun j v hv => by obtain ⟨hj, rfl⟩ := row_some hv; exact hsrc j hj)
    (fun j hj => by rw [row_length] at hj; rw [hR.1 (off + j) (by omega)]; rfl) (fun j hj => by rw [row_length] at hj; exact hR.2.1 (off + j) (by omega)) (fun v hv => by
      obtain ⟨j, hj, rfl⟩ := List.mem_map.1 hv
      exact h1 j (by simpa using hj))
  rw [row_length] at hrun
  simp [execOp, ho, resolve, invoke, builtin, hd, hs, hrun, Result.andThen]
theorem exec_alloc {P : Program} {o : Oper} {a : Act} {w : World} (t : TypeId) (Z : Array Value) (ho : o.op = .alloc t) (hz : (zeroValue t).run P w = .ok (.agg Z) w) : (execOp a.eval o).run P w = .ok (.value (.pointer (some ⟨w.heap.size, 0, none⟩))) (w.alloc (.cells Z t)) := by
  unfold execOp
  simp [ho, Instr.alloc, hz, newVar, newRow, Value.cells]
theorem exec_loadL {P : Program} {o : Oper} {a : Act} {w : World} (t : TypeId) (x : Operand) (ho : o.op = .load t x) (ad : Addr) (n : Nat) (g : Nat → Value) {d : TypeDesc} (hx : a.eval x = .pointer (some ad)) (h : LieAt ad n g w)
    (hu : P.underlying t = some d) (hd : d.isRow = true) (hi : (P.info? t).map (·.size) = some n) : (execOp a.eval o).run P w = .ok (.value (.agg (row n g).toArray)) w := by
  have hl := loadLie (P := P) h
  cases hq : P.info? t with
  | none => simp [hq] at hi
  | some i =>
    have hs : i.size = n := by simpa [hq] using hi
    have hagg : (isAgg t).run P w = .ok true w := by
      unfold isAgg
      rw [Sem.run_bind, run_underlying hu w]
      cases d <;> simp_all
    unfold execOp
    simp [ho, hx, Instr.loadAt, Instr.sureAddr, Sem.run_bind, loadVar, hagg, sizeOf, typeInfo, hq, hs, hl]
theorem lie_at {a : Addr} {n : Nat} {g : Nat → Value} {w : World} (h : LieAt a n g w) (k m : Nat) (hm : k + m ≤ n) : LieAt (a.add k) m (fun j => g (k + j)) w :=
  ⟨fun j hj => by rw [add_add]; exact h.1 (k + j) (by omega), by rw [add_block]; exact h.2⟩
set_option maxRecDepth 20000 in
set_option maxHeartbeats 2000000 in
theorem clone_any (v : Value) (l : Nat) (b : Nat → BitVec 8) (w : World) (h : BV v l b w) (hl : l ≤ 140737488355328) :
    Calls Tryd.prog 37 #[v] w fun e w' => ∃ v', e = .returned v' ∧ OwnB w.heap.size 5 v' l (yv b) w' ∧ Ext w w' := by
  rcases h with ⟨rfl, rfl⟩ | ⟨a, cap, rfl, h2, h3⟩
  · have hq := fun X : World => Go.Lib.run_eql_slice_nil_nil (P := Tryd.prog) X 0 0 Tryd.underlying23
    go_enter Tryd.func37, Tryd.ntmps37
    go_wp2
    go_ret
    exact ⟨_, rfl, own_nil _ _ _ _, Ext.refl _⟩
  · have hE : Ext w (w.alloc (.cells #[] 5)) := (Below.refl _ _).alloc (Nat.le_refl _) _
    have hO := own_empty w w.heap.size 5 (yv b) (Nat.le_refl _)
    have hB : BV (.slice (some a) l cap) l b (w.alloc (.cells #[] 5)) := .inr ⟨a, cap, rfl, h2, h3.carry hE⟩
    replace hE := hideit hE
    replace hO := hideit hO
    replace hB := hideit hB
    clear h3
    have hq := fun X : World => Go.Lib.run_eql_slice_some_nil (P := Tryd.prog) X a l cap Tryd.underlying23
    go_enter Tryd.func37, Tryd.ntmps37
    go_upto_region 3 with (fail)
    refine wp_region_lit ?_
    refine wpList_to rfl (.slice (some ⟨w.heap.size, 0, none⟩) 0 0) (w.alloc (.cells #[] 5)) (by simp [go_sem]) ?_
    simp only [Act.put, List.setIfInBounds_toArray, List.set_cons_zero, List.set_cons_succ]
    refine wpList_run rfl (.slice (some a) l cap) (by simp [go_sem]) ?_
    simp only [Act.put, List.setIfInBounds_toArray, List.set_cons_zero, List.set_cons_succ]
    refine wpList_growV (n := 0) (base := w.heap.size) elem22 rfl (.tmp 5) (.tmp 6) rfl rfl hO.out (.slice (some a) l cap) l b (yv b) rfl hB.out (fun _ _ => rfl) (fun j hj => by rw [Nat.zero_add]) (by omega) (Below.size hE.out) ?_
    intro v1 w1 hO1 hg1
    rw [Nat.zero_add] at hO1
    have hE1 := hideit (grownE hE.out hO.out (Nat.le_refl _) hg1)
    replace hO1 := hideit hO1
    obtain ⟨o1, c1, rfl⟩ := hO1.out.bv.form
    simp only [Act.put, List.setIfInBounds_toArray, List.set_cons_zero, List.set_cons_succ]
    clear hE hO hg1 hB
    go_wp2
    go_ret
    exact ⟨_, rfl, hO1.out, hE1.out⟩
theorem cutN (a : Addr) (cap p : Nat) (hp : p < 16) (h : 512 ≤ cap) (X : World) : Sem.run Tryd.prog (Instr.sliceAt 23 (.slice (some a) 512 cap) (some (.int .i64 (32 * (p : Int)))) none none) X = .ok (.slice (some (a.add (32 * p))) (512 - 32 * p) (cap - 32 * p)) X := by
  have e : (32 * (p : Int)).toNat = 32 * p := by omega
  have h1 : 0 ≤ 32 * (p : Int) ∧ 32 * (p : Int) ≤ 512 := by omega
  have h2 : ¬ cap = 32 * p := by omega
  simp [go_sem, h1, h2, e]
theorem arr25 (a : Addr) (l cap : Nat) (h : 32 ≤ l) (X : World) : Sem.run Tryd.prog (Instr.arrayAt 25 (.slice (some a) l cap)) X = .ok (.pointer (some a)) X := by
  have h1 : ¬ l < 32 := by omega
  simp [Instr.arrayAt, go_sem, h1]
set_option maxRecDepth 20000 in
set_option maxHeartbeats 2000000 in
theorem child_any (a : Addr) (cap p : Nat) (b : Nat → BitVec 8) (w : World) (hp : p < 16) (hcap : 512 ≤ cap) (hb : LieAt a 512 (yv b) w) :
    Calls Tryd.prog 35 #[.slice (some a) 512 cap, .int .i64 (p : Int)] w fun e w' => e = .returned (.agg (row 32 (yv fun j => b (32 * p + j))).toArray) ∧ Ext w w' := by
  have hz := zero24
  have HR0 := hideit (RowAt.new w 32 (yv fun _ => 0#8) 25)
  have HE0 : Ext w (w.alloc (.cells (row 32 (yv fun _ => 0#8)).toArray 25)) := (Below.refl _ _).alloc (Nat.le_refl _) _
  have hb1 := hideit (lie_at (hb.carry HE0) (32 * p) 32 (by omega))
  replace HE0 := hideit HE0
  clear hb
  go_enter Tryd.func35, Tryd.ntmps35
  go_upto_region 1 with (fail)
  generalize w.alloc (.cells (row 32 (yv fun _ => 0#8)).toArray 25) = w1 at *
  refine wp_region_lit ?_
  refine wpList_run rfl (.slice (some a) 512 cap) (by simp [go_sem]) ?_
  simp only [Act.put, List.setIfInBounds_toArray, List.set_cons_zero, List.set_cons_succ]
  refine wpList_run rfl (.int .i64 (p : Int)) (by simp [go_sem]) ?_
  simp only [Act.put, List.setIfInBounds_toArray, List.set_cons_zero, List.set_cons_succ]
  have e7 : IntKind.i64.wrap ((p : Int) * 32) = 32 * (p : Int) := by rw [IntKind.wrap_i64]; omega
  refine wpList_run rfl (.int .i64 (32 * (p : Int))) (by simp [go_sem, e7]) ?_
  simp only [Act.put, List.setIfInBounds_toArray, List.set_cons_zero, List.set_cons_succ]
  refine wpList_run rfl (.slice (some (a.add (32 * p))) (512 - 32 * p) (cap - 32 * p)) (by simp [go_sem, cutN a cap p hp hcap]) ?_
  simp only [Act.put, List.setIfInBounds_toArray, List.set_cons_zero, List.set_cons_succ]
  refine wpList_run rfl (.pointer (some (a.add (32 * p)))) (by simp [go_sem, arr25 (a.add (32 * p)) (512 - 32 * p) (cap - 32 * p) (by omega)]) ?_
  simp only [Act.put, List.setIfInBounds_toArray, List.set_cons_zero, List.set_cons_succ]
  refine wpList_run rfl (.agg (row 32 (yv fun j => b (32 * p + j))).toArray) (exec_loadL 25 (.tmp 9) rfl (a.add (32 * p)) 32 _ rfl hb1.out Tryd.underlying25 rfl info24) ?_
  simp only [Act.put, List.setIfInBounds_toArray, List.set_cons_zero, List.set_cons_succ]
  refine wpList_store_mid rfl 25 (.tmp 4) (.tmp 10) rfl _ 0 (row 32 (yv fun j => b (32 * p + j))).toArray rfl rfl (by rw [row_size]; exact HR0.out.there) (by rw [row_size]; exact info24) (row_one fun _ _ => rfl) ?_
  go_wp2
  exact bodyPost_ret (ret_row Tryd.results35 rfl (HR0.out.cells (g' := yv fun j => b (32 * p + j))) Tryd.underlying25 rfl info24) rfl ⟨rfl, below_setCells _ (Nat.le_refl _) _ _ _ HE0.out⟩
end Go.Proofs.YtapmheocllicnaaDoor
