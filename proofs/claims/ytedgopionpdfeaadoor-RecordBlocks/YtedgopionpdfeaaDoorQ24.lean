/-
  The plan of redos: the walk. Whether numbers are those of blocks, none twice; whether a plan may be.
-/
import Derived.Test.YtedgopionpdfeaaDoorQ21
import Derived.Test.YtedgopionpdfeaaDoorQ17
import Derived.Test.YtedgopionpdfeaaDoorQ23
namespace Go.Proofs.YtedgopionpdfeaaDoor
open Go.RowKit Go.BigFrame
theorem exec_loadL {P : Program} {o : Oper} {a : Act} {w : World} (t : TypeId) (x : Operand) (ho : o.op = .load t x) (ad : Addr) (n : Nat) (g : Nat → Value) {d : TypeDesc} (hx : a.eval x = .pointer (some ad)) (h : LieAt ad n g w)
    (hu : P.underlying t = some d) (hd : d.isRow = true) (hi : (P.info? t).map (·.size) = some n) : (execOp a.eval o).run P w = .ok (.value (.agg (row n g).toArray)) w := by
  have hl := loadLie (P := P) h
  cases hq : P.info? t with
  | none => simp [hq] at hi
  | some i =>
    have hs : i.size = n := by simpa [hq] using hi
    have hagg : (isAgg t).run P w = .ok true w := by
      unfold isAgg
      rw [Sem.run_bind, run_underlying hu w]
      cases d <;> simp_all
    unfold execOp
    simp [ho, hx, Instr.loadAt, Instr.sureAddr, Sem.run_bind, loadVar, hagg, sizeOf, typeInfo, hq, hs, hl]
/-- a Kept -/
def kpI (x y : Int) (j : Nat) : Value := if j = 0 then .int .i64 x else .int .i64 y
def kpV (kb kw : Nat → Int) (j : Nat) : Value := kpI (kb (j / 2)) (kw (j / 2)) (j % 2)
/-- a list of them -/
def KL (v : Value) (n : Nat) (kb kw : Nat → Int) (W : World) : Prop := (v = .slice none 0 0 ∧ n = 0) ∨ ∃ a cap, v = .slice (some a) n cap ∧ n ≤ cap ∧ LieAt a (n * 2) (kpV kb kw) W
theorem exec_loadR {P : Program} {o : Oper} {a : Act} {w : World} (t : TypeId) (x : Operand) (ho : o.op = .load t x) (b off n : Nat) (g : Nat → Value) {d : TypeDesc} (hx : a.eval x = .pointer (some ⟨b, off, none⟩)) (h : w.rangeAt b off (row n g))
    (hu : P.underlying t = some d) (hd : d.isRow = true) (hi : (P.info? t).map (·.size) = some n) : (execOp a.eval o).run P w = .ok (.value (.agg (row n g).toArray)) w := by
  unfold execOp
  simp only [ho, hx, Instr.loadAt, Instr.sureAddr, Sem.run_bind, Sem.run_pure, Result.andThen_ok, run_loadVar_mid (P := P) w b off t (row n g) _ h hu hd (by rw [row_length]; exact hi)]
theorem info51 : (Tryd.prog.info? 51).map (·.size) = some 2 := by kernel_rfl
theorem info47 : (Tryd.prog.info? 47).map (·.size) = some 3 := by kernel_rfl
theorem elem36 : ElemB Tryd.prog 36 3 8 := elem_b Tryd.underlying36 (by kernel_rfl) (by kernel_rfl) (by kernel_rfl)
theorem alloc47 {o : Oper} {a : Act} {w : World} (ho : o.op = .alloc 47) : (execOp a.eval o).run Tryd.prog w = .ok (.value (.pointer (some ⟨w.heap.size, 0, none⟩))) (w.alloc (.cells #[.int .u64 0, .int .u64 0, .slice none 0 0] 47)) := by
  unfold execOp
  simp only [ho, Instr.alloc, show (zeroValue 47).run Tryd.prog w = .ok (.agg #[.int .u64 0, .int .u64 0, .slice none 0 0]) w by kernel_rfl, newVar, newRow, Value.cells, Sem.run_bind, Sem.run_pure, Result.andThen_ok]
  rfl
theorem alloc51 {o : Oper} {a : Act} {w : World} (ho : o.op = .alloc 51) : (execOp a.eval o).run Tryd.prog w = .ok (.value (.pointer (some ⟨w.heap.size, 0, none⟩))) (w.alloc (.cells #[.int .i64 0, .slice none 0 0] 51)) := by
  unfold execOp
  simp only [ho, Instr.alloc, show (zeroValue 51).run Tryd.prog w = .ok (.agg #[.int .i64 0, .slice none 0 0]) w by kernel_rfl, newVar, newRow, Value.cells, Sem.run_bind, Sem.run_pure, Result.andThen_ok]
  rfl
theorem build47 (x : BitVec 64) (w : World) : (Instr.build 47 #[(0, .int .u64 (x.toNat : Int))]).run Tryd.prog w = .ok (plA x 0#64 (.slice none 0 0)) w := by kernel_rfl
theorem wpList_st9 {P : Program} {w : World} {ops : Array Oper} {rest : List Oper} {o : Oper} {a : Act} {Q : Exit → Act → World → Prop} (hg : o.guard = none) (w' : World) (hr : (execOp a.eval o).run P w = .ok .skip w')
    (h : wpList P ops Q rest (a.put o.dst undef) w') : wpList P ops Q (o :: rest) a w := by
  refine wpList_plain hg fun K hK => ?_
  unfold Oper.wp
  rw [hr]
  exact hK _ _ h
theorem plV_one {x t : BitVec 64} {v : Value} (hv : v.oneCell' = true) : ∀ j, j < 3 → (plV x t v j).oneCell' = true := fun j hj => by
  rcases (by omega : j = 0 ∨ j = 1 ∨ j = 2) with rfl | rfl | rfl
  · rfl
  · rfl
  · exact hv
theorem row_new1 (w : World) (v : Value) (t : TypeId) : RowAt w.heap.size 1 (fun _ => v) (w.alloc (.cells #[v] t)) := RowAt.newOf w 1 _ t _ fun j hj => by
  obtain rfl : j = 0 := by omega
  rfl
theorem rdC_one {x : Int} {u : Value} (hu : u.oneCell' = true) : ∀ j, j < 2 → (rdC (fun _ => x) (fun _ => u) j).oneCell' = true := fun j hj => by
  rcases (by omega : j = 0 ∨ j = 1) with rfl | rfl
  · rfl
  · exact hu
/-- a plan on its way -/
structure PS (w : World) (b r : Nat) (x : BitVec 64) (bs : Nat → Int) (tm : BitVec 64) (k : Nat) (v : Value) (X : World) : Prop where
  row : RowAt b 3 (plV x tm v) X
  own : OwnB (b + 1) 3 v k (fun j => .int .i64 (bs j)) X
  res : RowAt r 3 (plV 0#64 0#64 (.slice none 0 0)) X
  rb : r < b
  wr : w.heap.size ≤ r
  ext : Ext w X
section
variable {w : World} {b r : Nat} {x tm : BitVec 64} {bs : Nat → Int} {k : Nat} {v : Value} {X Y : World}
theorem PS.keep (h : PS w b r x bs tm k v X) (e : Ext X Y) : PS w b r x bs tm k v Y := { h with row := h.row.carry e, own := h.own.ext e, res := h.res.carry e, ext := Ext.trans h.ext e }
theorem PS.grown {v' : Value} {u : Value} (h : PS w b r x bs tm k v X) (hg : X.grownBy Y v.ownBlock) (hO : OwnB (b + 1) 3 v' (k + 1) (fun j => .int .i64 (bs j)) Y) : PS w b r x bs tm (k + 1) v' (Y.setCell ⟨b, 2, none⟩ v') ∧ u = u := by
  have hb : ∀ q, v.ownBlock = some q → b + 1 ≤ q := fun q hq => (h.own.lt q hq).1
  have hr1 := h.row.grown hg fun e => by have := hb b e.symm; omega
  have hr2 := h.res.grown hg fun e => by have := hb r e.symm; have := h.rb; omega
  have hbt := but_setCell Y b 2 v'
  have hEY : Ext w Y := Below.trans h.ext (below_grown (Below.size h.ext) hg fun q hq => by have := hb q hq; have := h.rb; have := h.wr; omega)
  refine ⟨⟨(hr1.set 2 v').congr fun j hj => by rcases (by omega : j = 0 ∨ j = 1 ∨ j = 2) with rfl | rfl | rfl <;> rfl, hO.but hbt fun e => by have := (hO.lt b e).1; omega, hr2.but hbt (by have := h.rb; omega), h.rb, h.wr, Below.trans hEY (But.below hbt (by have := h.rb; have := h.wr; omega) (Below.size hEY))⟩, rfl⟩
theorem PS.turn (h : PS w b r x bs tm k v X) (tm' : BitVec 64) : PS w b r x bs tm' k v (X.setCell ⟨b, 1, none⟩ (.int .u64 (tm'.toNat : Int))) := by
  have hbt := but_setCell X b 1 (.int .u64 (tm'.toNat : Int))
  exact ⟨(h.row.set 1 _).congr fun j hj => by rcases (by omega : j = 0 ∨ j = 1 ∨ j = 2) with rfl | rfl | rfl <;> rfl, h.own.but hbt fun e => by have := (h.own.lt b e).1; omega, h.res.but hbt (by have := h.rb; omega), h.rb, h.wr, Below.trans h.ext (But.below hbt (by have := h.rb; have := h.wr; omega) (Below.size h.ext))⟩
end
set_option maxRecDepth 20000 in
set_option maxHeartbeats 4000000 in
theorem planOf_any (x : BitVec 64) (v0 : Value) (n : Nat) (bs : Nat → Int) (us : Nat → Value) (ls : Nat → Nat) (fs : Nat → Nat → BitVec 8) (w : World) (hL : RLs v0 n bs us ls fs w) (hn : n ≤ 4398046511104) : Calls Tryd.prog 21 #[.int .u64 (x.toNat : Int), v0] w fun e w' => ∃ v, e = .returned (plA x (tmK ls fs n) v) ∧ OwnB w.heap.size 3 v n (fun j => .int .i64 (bs j)) w' ∧ Ext w w' := by
  obtain ⟨o, cap, rfl⟩ := hL.form
  replace hL := hideit hL
  have hr1 : RowAt w.heap.size 3 (plV 0#64 0#64 (.slice none 0 0)) (w.alloc (.cells #[.int .u64 0, .int .u64 0, .slice none 0 0] 47)) := RowAt.newOf w 3 _ 47 _ fun j hj => by rcases (by omega : j = 0 ∨ j = 1 ∨ j = 2) with rfl | rfl | rfl <;> rfl
  have hX1 : Ext w (w.alloc (.cells #[.int .u64 0, .int .u64 0, .slice none 0 0] 47)) := (Below.refl _ _).alloc (Nat.le_refl _) _
  have hz1 : (w.alloc (.cells #[.int .u64 0, .int .u64 0, .slice none 0 0] 47)).heap.size = w.heap.size + 1 := by simp
  go_enter Tryd.func21, Tryd.ntmps21
  go_upto_region 0 with (fail)
  refine wp_region_lit ?_
  refine wpList_to rfl (.pointer (some ⟨w.heap.size, 0, none⟩)) (w.alloc (.cells #[.int .u64 0, .int .u64 0, .slice none 0 0] 47)) (alloc47 rfl) ?_
  simp only [Act.put, List.setIfInBounds_toArray, List.set_cons_zero, List.set_cons_succ]
  generalize w.alloc (.cells #[.int .u64 0, .int .u64 0, .slice none 0 0] 47) = w1 at *
  have hr2 : RowAt w1.heap.size 3 (plV 0#64 0#64 (.slice none 0 0)) (w1.alloc (.cells #[.int .u64 0, .int .u64 0, .slice none 0 0] 47)) := RowAt.newOf w1 3 _ 47 _ fun j hj => by rcases (by omega : j = 0 ∨ j = 1 ∨ j = 2) with rfl | rfl | rfl <;> rfl
  have hX2 : Ext w1 (w1.alloc (.cells #[.int .u64 0, .int .u64 0, .slice none 0 0] 47)) := (Below.refl _ _).alloc (Nat.le_refl _) _
  have hr3 := hr2.cells (g' := plV x 0#64 (.slice none 0 0))
  have hX3 : Ext w1 ((w1.alloc (.cells #[.int .u64 0, .int .u64 0, .slice none 0 0] 47)).setCells w1.heap.size 0 (row 3 (plV x 0#64 (.slice none 0 0)))) := below_setCells w1.heap.size (Nat.le_refl _) _ 0 _ hX2
  have hS : Hid (PS w w1.heap.size w.heap.size x bs (tmK ls fs 0) 0 (.slice none 0 0) ((w1.alloc (.cells #[.int .u64 0, .int .u64 0, .slice none 0 0] 47)).setCells w1.heap.size 0 (row 3 (plV x 0#64 (.slice none 0 0))))) := ⟨hr3, own_nil _ _ _ _, hr1.carry hX3, by omega, Nat.le_refl _, Ext.trans hX1 hX3⟩
  go_upto_region 1 with (fail)
  refine wp_region_lit ?_
  refine wpList_run rfl (.int .u64 (x.toNat : Int)) (by simp [go_sem]) ?_
  simp only [Act.put, List.setIfInBounds_toArray, List.set_cons_zero, List.set_cons_succ]
  refine wpList_run rfl (plA x 0#64 (.slice none 0 0)) (by simp [go_sem]; rfl) ?_
  simp only [Act.put, List.setIfInBounds_toArray, List.set_cons_zero, List.set_cons_succ]
  refine wpList_to rfl (.pointer (some ⟨w1.heap.size, 0, none⟩)) (w1.alloc (.cells #[.int .u64 0, .int .u64 0, .slice none 0 0] 47)) (alloc47 rfl) ?_
  simp only [Act.put, List.setIfInBounds_toArray, List.set_cons_zero, List.set_cons_succ]
  refine wpList_store_mid rfl 47 (.tmp 5) (.tmp 9) rfl w1.heap.size 0 (row 3 (plV x 0#64 (.slice none 0 0))).toArray rfl rfl (by rw [row_size]; exact hr2.there) (by rw [row_size]; exact info47) (row_one fun j hj => by rcases (by omega : j = 0 ∨ j = 1 ∨ j = 2) with rfl | rfl | rfl <;> rfl) ?_
  rw [show (row 3 (plV x 0#64 (.slice none 0 0))).toArray.toList = row 3 (plV x 0#64 (.slice none 0 0)) from rfl]
  generalize (w1.alloc (.cells #[.int .u64 0, .int .u64 0, .slice none 0 0] 47)).setCells w1.heap.size 0 (row 3 (plV x 0#64 (.slice none 0 0))) = w3 at *
  clear hr1 hr2 hr3 hX1 hX2 hX3 hz1
  generalize w1.heap.size = b at *
  simp only [Act.put]
  go_wp2
  go_loopw [6, 7, 12] (fun _ _ iv X => ∃ (k : Nat) (v : Value), k ≤ n ∧ iv = .int .i64 (k : Int) ∧ PS w b w.heap.size x bs (tmK ls fs k) k v X) (fun _ _ iv _ => 5000000000000 - (intOf iv).toNat)
  case atStart => exact ⟨0, _, Nat.zero_le _, rfl, hS.out⟩
  case round =>
    obtain ⟨k, v, hk, rfl, hI⟩ := hrel
    clear hS
    by_cases hlt : k < n
    · have k0 : (0 : Int) ≤ (k : Int) := by omega
      have k1 : (k : Int) < (n : Int) := by omega
      obtain ⟨a, rfl, hel⟩ := (hL.out.ext hI.ext).at k hlt
      obtain ⟨hpv, hls⟩ := (hL.out.ext hI.ext).2 k hlt
      obtain ⟨uo, ucp, hu⟩ := hpv.form
      have hX2 : Ext wr ((wr.alloc (.cells #[.int .i64 0, .slice none 0 0] 51)).setCells wr.heap.size 0 (row 2 (rdC (fun _ => bs k) (fun _ => us k)))) := below_setCells wr.heap.size (Nat.le_refl _) _ 0 _ ((Below.refl _ _).alloc (Nat.le_refl _) _)
      have hT : RowAt wr.heap.size 2 (rdC (fun _ => 0) (fun _ => .slice none 0 0)) (wr.alloc (.cells #[.int .i64 0, .slice none 0 0] 51)) := RowAt.newOf wr 2 _ 51 _ fun j hj => by rcases (by omega : j = 0 ∨ j = 1) with rfl | rfl <;> rfl
      have hR2 := hT.cells (g' := rdC (fun _ => bs k) (fun _ => us k))
      go_upto_region 3 with (fail)
      refine wp_region_lit ?_
      refine wpList_run rfl (.bool true) (by simp [go_sem, k1]) ?_
      simp only [Act.put, List.setIfInBounds_toArray, List.set_cons_zero, List.set_cons_succ]
      go_upto_region 4 with (fail)
      refine wp_region_lit ?_
      refine wpList_run rfl (.int .i64 (k : Int)) (by simp [go_sem]) ?_
      simp only [Act.put, List.setIfInBounds_toArray, List.set_cons_zero, List.set_cons_succ]
      refine wpList_run rfl (.pointer (some (a.add (k * 2)))) (by simp [go_sem, k1]) ?_
      simp only [Act.put, List.setIfInBounds_toArray, List.set_cons_zero, List.set_cons_succ]
      refine wpList_run rfl (.agg (row 2 (rdC (fun _ => bs k) (fun _ => us k))).toArray) (exec_loadL 51 (.tmp 15) rfl (a.add (k * 2)) 2 _ rfl hel Tryd.underlying51 rfl info51) ?_
      simp only [Act.put, List.setIfInBounds_toArray, List.set_cons_zero, List.set_cons_succ]
      refine wpList_to rfl (.pointer (some ⟨wr.heap.size, 0, none⟩)) (wr.alloc (.cells #[.int .i64 0, .slice none 0 0] 51)) (alloc51 rfl) ?_
      simp only [Act.put, List.setIfInBounds_toArray, List.set_cons_zero, List.set_cons_succ]
      refine wpList_run rfl (.int .i64 (k : Int)) (by simp [go_sem]) ?_
      simp only [Act.put, List.setIfInBounds_toArray, List.set_cons_zero, List.set_cons_succ]
      refine wpList_store_mid rfl 51 (.tmp 7) (.tmp 16) rfl wr.heap.size 0 (row 2 (rdC (fun _ => bs k) (fun _ => us k))).toArray rfl rfl (by rw [row_size]; exact hT.there) (by rw [row_size]; exact info51) (row_one (rdC_one (by rw [hu]; rfl))) ?_
      rw [show (row 2 (rdC (fun _ => bs k) (fun _ => us k))).toArray.toList = row 2 (rdC (fun _ => bs k) (fun _ => us k)) from rfl]
      have hbx : b < wr.heap.size := hI.row.2.2
      have hlt9 : ∀ q, v.ownBlock = some q → q < wr.heap.size := fun q hq => (hI.own.lt q hq).2
      have hI2 := hI.keep hX2
      have hpv2 := hpv.ext hX2
      generalize (wr.alloc (.cells #[.int .i64 0, .slice none 0 0] 51)).setCells wr.heap.size 0 (row 2 (rdC (fun _ => bs k) (fun _ => us k))) = x2 at *
      generalize wr.heap.size = wx at *
      clear hT hX2 hel
      simp only [Act.put]
      have f0 : x2.cell? ⟨wx, 0, none⟩ = some (.int .i64 (bs k)) := hR2.1 0 (by decide)
      have e2 : x2.cell? ⟨b, 2, none⟩ = some v := hI2.row.1 2 (by decide)
      have hX3 : Ext x2 (x2.alloc (.cells #[.int .i64 (bs k)] 3)) := (Below.refl _ _).alloc (Nat.le_refl _) _
      have hLq : LieAt ⟨x2.heap.size, 0, none⟩ 1 (fun _ => .int .i64 (bs k)) (x2.alloc (.cells #[.int .i64 (bs k)] 3)) := RowAt.lie (row_new1 x2 (.int .i64 (bs k)) 3) 1 (Nat.le_refl _)
      have hI3 := hI2.keep hX3
      have hR3 := hR2.carry hX3
      have hpv3 := hpv2.ext hX3
      obtain ⟨vo, vc, hv⟩ : ∃ vo vc, v = .slice vo k vc := by
        rcases hI3.own.2 with ⟨e, e'⟩ | ⟨g, cc, cur, e, _⟩
        · exact ⟨none, 0, by rw [e, e']⟩
        · exact ⟨_, cc, e⟩
      go_upto_region 5 with (fail)
      refine wp_region_lit ?_
      refine wpList_run rfl (.pointer (some ⟨b, 2, none⟩)) (by simp [go_sem]) ?_
      simp only [Act.put, List.setIfInBounds_toArray, List.set_cons_zero, List.set_cons_succ]
      refine wpList_run rfl (v) (by simp [go_sem, e2]) ?_
      simp only [Act.put, List.setIfInBounds_toArray, List.set_cons_zero, List.set_cons_succ]
      refine wpList_run rfl (.pointer (some ⟨wx, 0, none⟩)) (by simp [go_sem]) ?_
      simp only [Act.put, List.setIfInBounds_toArray, List.set_cons_zero, List.set_cons_succ]
      refine wpList_run rfl (.int .i64 (bs k)) (by simp [go_sem, f0]) ?_
      simp only [Act.put, List.setIfInBounds_toArray, List.set_cons_zero, List.set_cons_succ]
      refine wpList_to rfl (.slice (some ⟨x2.heap.size, 0, none⟩) 1 1) (x2.alloc (.cells #[.int .i64 (bs k)] 3)) (by simp [go_sem]) ?_
      simp only [Act.put, List.setIfInBounds_toArray, List.set_cons_zero, List.set_cons_succ]
      generalize x2.alloc (.cells #[.int .i64 (bs k)] 3) = x3 at *
      generalize x2.heap.size = q3 at *
      refine wpList_growE (n := k) (base := b + 1) elem36 rfl (.tmp 18) (.tmp 21) rfl rfl hI3.own ⟨q3, 0, none⟩ 1 1 (fun _ => .int .i64 (bs k)) (fun j => .int .i64 (bs j)) rfl hLq (fun j _ => rfl) (fun j hj => rfl) (fun j hj => by rw [show k + j = k by omega]) (by omega) (by omega) (by have := hI3.row.2.2; omega) ?_
      intro v4 x4 hO4 hg4
      simp only [Act.put, List.setIfInBounds_toArray, List.set_cons_zero, List.set_cons_succ]
      have hR4 := hR3.grown hg4 fun e => by have := hlt9 wx e.symm; omega
      have hI5 := (hI3.grown (u := undef) hg4 hO4).1
      have hpv4 : PV (us k) (ls k) (fs k) (x4.setCell ⟨b, 2, none⟩ v4) := (hL.out.ext hI5.ext).2 k hlt |>.1
      have hR5 := hR4.but (but_setCell x4 b 2 v4) (fun e => by omega)
      have c4 : (x4.cell? ⟨b, 2, none⟩).isSome = true := by
        have := (hI3.row.grown hg4 fun e => by have := (hI3.own.lt b e.symm).1; omega).1 2 (by decide)
        rw [this]; rfl
      have z4 : x4.frozen? ⟨b, 2, none⟩ = false := (hI3.row.grown hg4 fun e => by have := (hI3.own.lt b e.symm).1; omega).2.1 2 (by decide)
      obtain ⟨vo4, vc4, hv4⟩ : ∃ vo vc, v4 = .slice vo (k + 1) vc := by
        obtain ⟨b9, c9, e9, _⟩ := hO4.lies (by omega)
        exact ⟨_, c9, e9⟩
      obtain ⟨cv4, hcv4⟩ := Option.isSome_iff_exists.1 c4
      refine wpList_run rfl (.pointer (some ⟨b, 2, none⟩)) (by simp [go_sem]) ?_
      simp only [Act.put, List.setIfInBounds_toArray, List.set_cons_zero, List.set_cons_succ]
      refine wpList_st9 rfl (x4.setCell ⟨b, 2, none⟩ v4) (by rw [hv4]; simp [go_sem, hcv4, z4]) ?_
      simp only [Act.put]
      generalize x4.setCell ⟨b, 2, none⟩ v4 = x5 at *
      have f1 : x5.cell? ⟨wx, 1, none⟩ = some (.slice uo (ls k) ucp) := by rw [← hu]; exact hR5.1 1 (by decide)
      have kj := hideit (isJ_any (.slice uo (ls k) ucp) (ls k) (fs k) x5 (by rw [← hu]; exact hpv4) hls)
      replace hI5 := hideit hI5
      clear hI hI2 hI3 hR2 hR3 hR4 hR5 hpv hpv2 hpv3 hpv4 hO4 hg4 hLq hX3 f0 e2 c4 z4 hcv4 hlt9 hv hv4 hu
      go_upto_region 6 with (fail)
      refine wp_region_lit ?_
      refine wpList_run rfl (.pointer (some ⟨wx, 1, none⟩)) (by simp [go_sem]) ?_
      simp only [Act.put, List.setIfInBounds_toArray, List.set_cons_zero, List.set_cons_succ]
      refine wpList_run rfl (.slice uo (ls k) ucp) (by simp [go_sem, f1]) ?_
      simp only [Act.put, List.setIfInBounds_toArray, List.set_cons_zero, List.set_cons_succ]
      refine wpList_call rfl (by simp [go_sem]) ((kj.out).mono ?_)
      rintro e x6 ⟨rfl, hX6⟩
      refine ⟨_, rfl, ?_⟩
      simp only [Act.put, List.setIfInBounds_toArray, List.set_cons_zero, List.set_cons_succ]
      have hI6 := hideit (hI5.out.keep hX6)
      have htm : tmK ls fs (k + 1) = if like (ls k) (fs k) = true then tmK ls fs k ||| (1#64 <<< k) else tmK ls fs k := rfl
      clear kj hX6 f1 hI5
      cases hlk : like (ls k) (fs k) with
      | false =>
        rw [hlk, if_neg (by decide)] at htm
        rw [← htm] at hI6
        clear htm hlk
        go_wp2
        exact ⟨⟨k + 1, v4, by omega, by go_num, hI6.out⟩, by simp [intOf]; omega⟩
      | true =>
        rw [hlk, if_pos rfl] at htm
        have hD : Ext x6 x6.drew := (Ext.refl x6).draw
        have hID := hideit (hI6.out.keep hD)
        have hIT := hideit (hI6.out.keep hD |>.turn (tmK ls fs (k + 1)))
        have t1 : ∀ X, Ext x6.drew X → X.cell? ⟨b, 1, none⟩ = some (.int .u64 ((tmK ls fs k).toNat : Int)) := fun X hX => (hID.out.keep hX).row.1 1 (by decide)
        have c1 := t1 _ (Ext.refl _)
        have z1 : x6.drew.frozen? ⟨b, 1, none⟩ = false := hID.out.row.2.1 1 (by decide)
        have os := one_shl k
        have on := or_nat (tmK ls fs k) (1#64 <<< k)
        rw [← htm] at on
        generalize tmK ls fs k = ta at *
        generalize (1#64 <<< k) = sa at *
        obtain ⟨tb, htb⟩ : ∃ tb, tb = tmK ls fs (k + 1) := ⟨_, rfl⟩
        rw [← htb] at hIT on
        replace htb := hideit htb
        clear hI6 hlk htm
        go_upto_region 7 with (fail)
        refine wp_region_ladz (fun X => Ext x6.drew X) [6] [(false, 0), (false, 1), (false, 2), (false, 3), (false, 4), (false, 5), (true, 6)] (by kernel_rfl) (by kernel_rfl) (by decide +kernel) (by decide +kernel) (by decide +kernel) (by decide +kernel) (Ext.refl _) ?_
        generalize x6.drew = xd at *
        refine wpZ_f _ (.pointer (some ⟨b, 1, none⟩)) rfl rfl (fun X _ => by simp [go_sem]) ?_
        simp only [List.getElem_toArray, List.getElem_cons_zero, Act.put, List.setIfInBounds_toArray, List.set_cons_zero, List.set_cons_succ]
        refine wpZ_f _ (.int .u64 (ta.toNat : Int)) rfl rfl (fun X hX => by have e := t1 X hX; simp [go_sem, e]) ?_
        simp only [List.getElem_toArray, List.getElem_cons_zero, List.getElem_cons_succ, Act.put, List.setIfInBounds_toArray, List.set_cons_zero, List.set_cons_succ]
        refine wpZ_f _ (.int .i64 (k : Int)) rfl rfl (fun X _ => by simp [go_sem]) ?_
        simp only [List.getElem_toArray, List.getElem_cons_zero, List.getElem_cons_succ, Act.put, List.setIfInBounds_toArray, List.set_cons_zero, List.set_cons_succ]
        refine wpZ_f _ (.int .u64 (sa.toNat : Int)) rfl rfl (fun X hX => by simp [go_sem, os]) ?_
        simp only [List.getElem_toArray, List.getElem_cons_zero, List.getElem_cons_succ, Act.put, List.setIfInBounds_toArray, List.set_cons_zero, List.set_cons_succ]
        refine wpZ_f _ (.int .u64 (tb.toNat : Int)) rfl rfl (fun X hX => by simp [go_sem, on]) ?_
        simp only [List.getElem_toArray, List.getElem_cons_zero, List.getElem_cons_succ, Act.put, List.setIfInBounds_toArray, List.set_cons_zero, List.set_cons_succ]
        refine wpZ_f _ (.pointer (some ⟨b, 1, none⟩)) rfl rfl (fun X _ => by simp [go_sem]) ?_
        simp only [List.getElem_toArray, List.getElem_cons_zero, List.getElem_cons_succ, Act.put, List.setIfInBounds_toArray, List.set_cons_zero, List.set_cons_succ]
        refine wpZ_st _ (xd.setCell ⟨b, 1, none⟩ (.int .u64 (tb.toNat : Int))) rfl rfl (by simp [go_sem, c1, z1]) (fun _ => True) (.inl (by simp)) trivial ?_
        simp only [List.getElem_toArray, List.getElem_cons_zero, List.getElem_cons_succ, Act.put]
        refine wpZ_nil ?_
        clear t1 c1 z1 os on hD hID
        go_wp2
        exact ⟨⟨k + 1, v4, by omega, by go_num, by rw [← htb.out]; exact hIT.out⟩, by simp [intOf]; omega⟩
    · obtain rfl : k = n := by omega
      have k1 : ¬ (k : Int) < (k : Int) := by omega
      have hfin := hI.row.range
      have hth := hI.res.there
      have hO := hI.own
      have hbt : But w.heap.size wr (wr.setCells w.heap.size 0 (row 3 (plV x (tmK ls fs k) v))) := But.sets _ _ _ (But.refl _ _)
      have hlv : ∀ q, v.ownBlock = some q → b + 1 ≤ q := fun q hq => (hI.own.lt q hq).1
      have hO2 : Hid (OwnB w.heap.size 3 v k (fun j => .int .i64 (bs j)) (wr.setCells w.heap.size 0 (row 3 (plV x (tmK ls fs k) v)))) := (hO.but hbt fun e => by have := hlv _ e; have := hI.rb; omega).weaken (by have := hI.rb; have := hI.wr; omega)
      have hE2 : Hid (Ext w (wr.setCells w.heap.size 0 (row 3 (plV x (tmK ls fs k) v)))) := Below.trans hI.ext (But.below hbt (Nat.le_refl _) (Below.size hI.ext))
      have hR2 := hI.res.cells (g' := plV x (tmK ls fs k) v)
      have hv1 : v.oneCell' = true := by
        rcases hI.own.2 with ⟨e, _⟩ | ⟨g, cc, cur, e, _⟩ <;> rw [e] <;> rfl
      obtain ⟨ta, hta⟩ : ∃ ta, ta = tmK ls fs k := ⟨_, rfl⟩
      rw [← hta] at hfin hR2 hO2 hE2
      replace hta := hideit hta
      replace hR2 := hideit hR2
      have hb9 : wr.there b 0 3 := hI.row.there
      clear hI hbt hlv hO
      go_upto_region 3 with (fail)
      refine wp_region_lit ?_
      refine wpList_run rfl (.bool false) (by simp [go_sem, k1]) ?_
      simp only [Act.put, List.setIfInBounds_toArray, List.set_cons_zero, List.set_cons_succ]
      go_upto_region 9 with (fail)
      refine wp_region_lit ?_
      refine wpList_run rfl (.agg (row 3 (plV x ta v)).toArray) (exec_loadR 47 (.tmp 5) rfl b 0 3 _ rfl hfin Tryd.underlying47 rfl info47) ?_
      simp only [Act.put, List.setIfInBounds_toArray, List.set_cons_zero, List.set_cons_succ]
      refine wpList_store_mid rfl 47 (.tmp 4) (.tmp 34) rfl w.heap.size 0 (row 3 (plV x ta v)).toArray rfl rfl (by rw [row_size]; exact hth) (by rw [row_size]; exact info47) (row_one (plV_one hv1)) ?_
      rw [show (row 3 (plV x ta v)).toArray.toList = row 3 (plV x ta v) from rfl]
      generalize wr.setCells w.heap.size 0 (row 3 (plV x ta v)) = wz at *
      clear hfin hth hb9 hv1
      simp only [Act.put]
      go_wp2
      refine bodyPost_ret (ret_row Tryd.results21 rfl hR2.out Tryd.underlying47 rfl info47) rfl ?_
      exact ⟨v, by rw [← hta.out]; rfl, hO2.out, hE2.out⟩
end Go.Proofs.YtedgopionpdfeaaDoor
namespace Go.Proofs.YtedgopionpdfeaaDoor
open Go.RowKit Go.BigFrame Go.Maps
theorem exec_look {P : Program} {o : Oper} {a : Act} {w : World} {t : TypeId} {m x v : Value} {c : Bool} (y z : Operand) (ho : o.op = .lookup t y z c) (hy : a.eval y = m) (hz : a.eval z = x) (hr : (Instr.lookup t m x c).run P w = .ok v w) : (execOp a.eval o).run P w = .ok (.value v) w := by
  simp [execOp, ho, hy, hz, hr, Result.andThen]
theorem exec_mput {P : Program} {o : Oper} {a : Act} {w w' : World} {t : TypeId} {m k v : Value} (x y z : Operand) (ho : o.op = .mapUpdate t x y z) (hx : a.eval x = m) (hy : a.eval y = k) (hz : a.eval z = v)
    (hr : (Instr.mapUpdate t m k v).run P w = .ok () w') : (execOp a.eval o).run P w = .ok .skip w' := by
  simp [execOp, ho, hx, hy, hz, hr, Result.andThen]
/-- a list of numbers -/
def IL (v : Value) (n : Nat) (bs : Nat → Int) (w : World) : Prop := ((v = .slice none 0 0 ∧ n = 0) ∨ ∃ a cap, v = .slice (some a) n cap ∧ n ≤ cap ∧ LieAt a n (fun j => .int .i64 (bs j)) w) ∧ ∀ j, j < n → okI (bs j)
theorem IL.ext {v : Value} {n : Nat} {bs : Nat → Int} {w X : World} (h : IL v n bs w) (k : Ext w X) : IL v n bs X := by
  refine ⟨?_, h.2⟩
  rcases h.1 with h1 | ⟨a, cap, h1, h2, h3⟩
  · exact .inl h1
  · exact .inr ⟨a, cap, h1, h2, h3.carry k⟩
theorem IL.form {v : Value} {n : Nat} {bs : Nat → Int} {w : World} (h : IL v n bs w) : ∃ o cap, v = .slice o n cap := by
  rcases h.1 with ⟨h1, h2⟩ | ⟨a, cap, h1, _⟩
  · exact ⟨none, 0, by rw [h1, h2]⟩
  · exact ⟨_, cap, h1⟩
theorem OwnB.il {base : Nat} {v : Value} {n : Nat} {bs : Nat → Int} {w : World} (h : OwnB base 3 v n (fun j => .int .i64 (bs j)) w) (hk : ∀ j, j < n → okI (bs j)) : IL v n bs w := by
  refine ⟨?_, hk⟩
  rcases h.2 with ⟨h1, h2⟩ | ⟨g, cap, cur, h1, _, hg, hc, _⟩
  · exact .inl ⟨h1, h2⟩
  · refine .inr ⟨⟨g, 0, none⟩, cap, h1, hc, ?_⟩
    rcases Nat.eq_zero_or_pos n with h0 | h0
    · subst h0
      exact ⟨fun j hj => absurd hj (Nat.not_lt_zero _), (Array.getElem?_eq_some_iff.1 hg).1⟩
    · obtain ⟨g', cap', e, _, _, _, hR⟩ := h.lies h0
      rw [h1] at e
      have e2 : g = g' := congrArg Addr.block (Option.some.inj (Value.slice.inj e).1)
      subst e2
      exact hR.lie n (Nat.le_refl _)
def okB (x : Int) : Prop := 0 ≤ x ∧ x < 4096
/-- numbers of blocks, none twice -/
def rbs (n : Nat) (bs : Nat → Int) : Prop := ∀ i, i < n → okB (bs i) ∧ ∀ j, j < i → bs j ≠ bs i
def mB (bs : Nat → Int) : Nat → Int → Option Value
  | 0 => fun _ => none
  | k + 1 => mset (mB bs k) (bs k) (some (.agg #[]))
theorem mB_get (bs : Nat → Int) : ∀ (k : Nat) (x : Int), (mB bs k x).getD (.agg #[]) = .agg #[]
  | 0, _ => rfl
  | k + 1, x => by
    show (mset (mB bs k) (bs k) (some (.agg #[])) x).getD _ = _
    unfold mset
    split
    · rfl
    · exact mB_get bs k x
theorem mB_some (bs : Nat → Int) : ∀ (k : Nat) (x : Int), (mB bs k x).isSome = true ↔ ∃ j, j < k ∧ bs j = x
  | 0, x => ⟨fun h => absurd h (by simp [mB]), fun ⟨j, hj, _⟩ => absurd hj (Nat.not_lt_zero _)⟩
  | k + 1, x => by
    show (mset (mB bs k) (bs k) (some (.agg #[])) x).isSome = true ↔ _
    unfold mset
    by_cases e : x = bs k
    · rw [if_pos e]
      exact ⟨fun _ => ⟨k, Nat.lt_succ_self k, e.symm⟩, fun _ => rfl⟩
    · rw [if_neg e, mB_some bs k x]
      constructor
      · rintro ⟨j, hj, h⟩
        exact ⟨j, by omega, h⟩
      · rintro ⟨j, hj, h⟩
        refine ⟨j, ?_, h⟩
        rcases Nat.lt_succ_iff_lt_or_eq.1 hj with q | q
        · exact q
        · exact absurd (q ▸ h).symm e
theorem zero103 (w : World) : (zeroValue 103).run Tryd.prog w = .ok (.agg #[]) w := by kernel_rfl
theorem info103 : (Tryd.prog.info? 103).map (·.size) = some 0 := by kernel_rfl
theorem alloc103 {o : Oper} {a : Act} {w : World} (ho : o.op = .alloc 103) : (execOp a.eval o).run Tryd.prog w = .ok (.value (.pointer (some ⟨w.heap.size, 0, none⟩))) (w.alloc (.cells #[] 103)) := by
  unfold execOp
  simp only [ho, Instr.alloc, zero103, newVar, newRow, Value.cells, Sem.run_bind, Sem.run_pure, Result.andThen_ok]
  rfl
set_option maxRecDepth 20000 in
set_option maxHeartbeats 4000000 in
theorem areB_any (v0 : Value) (n : Nat) (bs : Nat → Int) (w : World) (hL : IL v0 n bs w) (hn : n ≤ 4398046511104) (r : Bool) (hr : r = true ↔ rbs n bs) : Calls Tryd.prog 49 #[v0] w fun e w' => e = .returned (.bool r) ∧ Ext w w' := by
  obtain ⟨o, cap, rfl⟩ := hL.form
  have hmm := @run_makeMap Tryd.prog
  have hM1 : Hid (MapAt Tryd.prog 3 w.heap.size 0 (mB bs 0) (w.alloc (.map #[] 0))) := map_made w
  have hX1 : Hid (Ext w (w.alloc (.map #[] 0))) := (Below.refl _ _).alloc (Nat.le_refl _) _
  replace hL := hideit hL
  replace hr := hideit hr
  go_enter Tryd.func49, Tryd.ntmps49
  go_upto_region 1 with (fail)
  refine wp_region_lit ?_
  refine wpList_to rfl (.map (some w.heap.size)) (w.alloc (.map #[] 0)) (by simp [go_sem, hmm]) ?_
  simp only [Act.put, List.setIfInBounds_toArray, List.set_cons_zero, List.set_cons_succ]
  refine wpList_run rfl (.map (some w.heap.size)) (by simp [go_sem]) ?_
  simp only [Act.put, List.setIfInBounds_toArray, List.set_cons_zero, List.set_cons_succ]
  clear hmm
  generalize w.alloc (.map #[] 0) = w1 at *
  obtain ⟨mb, hmb⟩ : ∃ mb, mb = w.heap.size := ⟨_, rfl⟩
  rw [← hmb] at hM1 ⊢
  replace hmb := hideit hmb
  go_wp2
  go_loopw [5, 6, 7, 11] (fun _ _ _ iv X => ∃ k : Nat, k ≤ n ∧ iv = .int .i64 (k : Int) ∧ MapAt Tryd.prog 3 mb k (mB bs k) X ∧ rbs k bs ∧ Ext w X) (fun _ _ _ iv _ => 5000000000000 - (intOf iv).toNat)
  case atStart => exact ⟨0, Nat.zero_le _, rfl, hM1.out, fun i hi => absurd hi (Nat.not_lt_zero _), hX1.out⟩
  case round =>
    obtain ⟨k, hk, rfl, hM, hB, hE⟩ := hrel
    clear hM1 hX1
    by_cases hlt : k < n
    · have k0 : (0 : Int) ≤ (k : Int) := by omega
      have k1 : (k : Int) < (n : Int) := by omega
      obtain ⟨a, rfl, ec⟩ : ∃ a, o = some a ∧ wr.cell? (a.add k) = some (.int .i64 (bs k)) := by
        rcases (hL.out.ext hE).1 with ⟨_, h2⟩ | ⟨a, cap', h1, _, h3⟩
        · omega
        · injection h1 with e1 _ _
          exact ⟨a, e1, h3.1 k hlt⟩
      have hki := hL.out.2 k hlt
      have hlk := hM.lookOk (t := 102) Tryd.underlying3 Tryd.underlying102 (zero103 wr) hki
      rw [mB_get] at hlk
      have hX2 : Ext wr (wr.alloc (.cells #[] 103)) := (Below.refl _ _).alloc (Nat.le_refl _) _
      have hM2 : MapAt Tryd.prog 3 mb k (mB bs k) (wr.alloc (.cells #[] 103)) := hM.same (Below.block hX2 _ hM.lt)
      have hE2 := Ext.trans hE hX2
      obtain ⟨tw, htw⟩ : ∃ tw, tw = (mB bs k (bs k)).isSome := ⟨_, rfl⟩
      rw [← htw] at hlk
      have htw2 : tw = true ↔ ∃ j, j < k ∧ bs j = bs k := by rw [htw]; exact mB_some bs k (bs k)
      replace htw2 := hideit htw2
      clear htw
      replace hB := hideit hB
      go_upto_region 3 with (fail)
      refine wp_region_lit ?_
      refine wpList_run rfl (.bool true) (by simp [go_sem, k1]) ?_
      simp only [Act.put, List.setIfInBounds_toArray, List.set_cons_zero, List.set_cons_succ]
      go_upto_region 4 with (fail)
      refine wp_region_lit ?_
      refine wpList_run rfl (.pointer (some (a.add k))) (by simp [go_sem, k1]) ?_
      simp only [Act.put, List.setIfInBounds_toArray, List.set_cons_zero, List.set_cons_succ]
      refine wpList_run rfl (.int .i64 (bs k)) (by simp [go_sem, ec]) ?_
      simp only [Act.put, List.setIfInBounds_toArray, List.set_cons_zero, List.set_cons_succ]
      refine wpList_run rfl (.int .i64 (bs k)) (by simp [go_sem]) ?_
      simp only [Act.put, List.setIfInBounds_toArray, List.set_cons_zero, List.set_cons_succ]
      clear ec
      go_upto_region 5 with (fail)
      refine wp_region_lit ?_
      refine wpList_run rfl (.map (some mb)) (by simp [go_sem]) ?_
      simp only [Act.put, List.setIfInBounds_toArray, List.set_cons_zero, List.set_cons_succ]
      refine wpList_run rfl (.int .i64 (bs k)) (by simp [go_sem]) ?_
      simp only [Act.put, List.setIfInBounds_toArray, List.set_cons_zero, List.set_cons_succ]
      refine wpList_run rfl (.tuple #[.agg #[], .bool tw]) (exec_look (.tmp 16) (.tmp 17) rfl rfl rfl hlk) ?_
      simp only [Act.put, List.setIfInBounds_toArray, List.set_cons_zero, List.set_cons_succ]
      refine wpList_run rfl (.tuple #[.agg #[], .bool tw]) (by simp [go_sem]) ?_
      simp only [Act.put, List.setIfInBounds_toArray, List.set_cons_zero, List.set_cons_succ]
      refine wpList_run rfl (.agg #[]) (by simp [go_sem]) ?_
      simp only [Act.put, List.setIfInBounds_toArray, List.set_cons_zero, List.set_cons_succ]
      refine wpList_run rfl (.bool tw) (by simp [go_sem]) ?_
      simp only [Act.put, List.setIfInBounds_toArray, List.set_cons_zero, List.set_cons_succ]
      refine wpList_to rfl (.pointer (some ⟨wr.heap.size, 0, none⟩)) (wr.alloc (.cells #[] 103)) (alloc103 rfl) ?_
      simp only [Act.put, List.setIfInBounds_toArray, List.set_cons_zero, List.set_cons_succ]
      refine wpList_store_mid rfl 103 (.tmp 6) (.tmp 19) rfl wr.heap.size 0 #[] rfl rfl (fun j hj => by simp at hj) info103 (by simp) ?_
      rw [show (wr.alloc (.cells #[] 103)).setCells wr.heap.size 0 (#[] : Array Value).toList = wr.alloc (.cells #[] 103) from rfl]
      generalize wr.alloc (.cells #[] 103) = x2 at *
      simp only [Act.put]
      clear hlk hX2 hM hE
      refine wpList_run rfl (.bool tw) (by simp [go_sem]) ?_
      simp only [Act.put, List.setIfInBounds_toArray, List.set_cons_zero, List.set_cons_succ]
      replace hM2 := hideit hM2
      replace hE2 := hideit hE2
      have hno : ¬ (tw = false ∧ okB (bs k)) → Hid (¬ rbs n bs) := fun h9 H => h9 (by
        have h8 := H k hlt
        refine ⟨?_, h8.1⟩
        cases tw with
        | false => rfl
        | true =>
          obtain ⟨j, hj, e⟩ := htw2.out.1 rfl
          exact absurd e (h8.2 j hj))
      cases tw with
      | true =>
        have hbad := hno (fun h => by cases h.1)
        obtain rfl : r = false := by
          cases r with
          | false => rfl
          | true => exact absurd (hr.out.1 rfl) hbad.out
        clear hno
        go_upto_region 6 with (fail)
        refine wp_region_lit ?_
        refine wpList_run rfl (.bool true) (by simp [go_sem]) ?_
        simp only [Act.put, List.setIfInBounds_toArray, List.set_cons_zero, List.set_cons_succ]
        refine wpList_run rfl (.bool true) (by simp [go_sem]) ?_
        simp only [Act.put, List.setIfInBounds_toArray, List.set_cons_zero, List.set_cons_succ]
        refine wpList_skip rfl ?_
        simp only [Act.put, List.setIfInBounds_toArray, List.set_cons_zero, List.set_cons_succ]
        refine wpList_skip rfl ?_
        simp only [Act.put, List.setIfInBounds_toArray, List.set_cons_zero, List.set_cons_succ]
        refine wpList_run rfl (.bool true) (by simp [go_sem]) ?_
        simp only [Act.put, List.setIfInBounds_toArray, List.set_cons_zero, List.set_cons_succ]
        refine wpList_run rfl (.bool true) (by simp [go_sem]) ?_
        simp only [Act.put, List.setIfInBounds_toArray, List.set_cons_zero, List.set_cons_succ]
        refine wpList_skip rfl ?_
        simp only [Act.put, List.setIfInBounds_toArray, List.set_cons_zero, List.set_cons_succ]
        refine wpList_skip rfl ?_
        simp only [Act.put, List.setIfInBounds_toArray, List.set_cons_zero, List.set_cons_succ]
        refine wpList_run rfl (.bool true) (by simp [go_sem]) ?_
        simp only [Act.put, List.setIfInBounds_toArray, List.set_cons_zero, List.set_cons_succ]
        go_wp2
        go_ret
        exact ⟨rfl, hE2.out⟩
      | false =>
        by_cases hb0 : bs k < 0
        · have hbad := hno (fun h => by have := h.2.1; omega)
          obtain rfl : r = false := by
            cases r with
            | false => rfl
            | true => exact absurd (hr.out.1 rfl) hbad.out
          clear hno
          go_upto_region 6 with (fail)
          refine wp_region_lit ?_
          refine wpList_run rfl (.bool false) (by simp [go_sem]) ?_
          simp only [Act.put, List.setIfInBounds_toArray, List.set_cons_zero, List.set_cons_succ]
          refine wpList_run rfl (.bool false) (by simp [go_sem]) ?_
          simp only [Act.put, List.setIfInBounds_toArray, List.set_cons_zero, List.set_cons_succ]
          refine wpList_runW rfl (.int .i64 (bs k)) (by simp [go_sem]) ?_
          simp only [Act.put, List.setIfInBounds_toArray, List.set_cons_zero, List.set_cons_succ]
          refine wpList_runW rfl (.bool true) (by simp [go_sem, hb0]) ?_
          simp only [Act.put, List.setIfInBounds_toArray, List.set_cons_zero, List.set_cons_succ]
          refine wpList_run rfl (.bool true) (by simp [go_sem]) ?_
          simp only [Act.put, List.setIfInBounds_toArray, List.set_cons_zero, List.set_cons_succ]
          refine wpList_run rfl (.bool true) (by simp [go_sem]) ?_
          simp only [Act.put, List.setIfInBounds_toArray, List.set_cons_zero, List.set_cons_succ]
          refine wpList_skip rfl ?_
          simp only [Act.put, List.setIfInBounds_toArray, List.set_cons_zero, List.set_cons_succ]
          refine wpList_skip rfl ?_
          simp only [Act.put, List.setIfInBounds_toArray, List.set_cons_zero, List.set_cons_succ]
          refine wpList_run rfl (.bool true) (by simp [go_sem]) ?_
          simp only [Act.put, List.setIfInBounds_toArray, List.set_cons_zero, List.set_cons_succ]
          go_wp2
          go_ret
          exact ⟨rfl, hE2.out⟩
        · by_cases hb1 : 4096 ≤ bs k
          · have hbad := hno (fun h => by have := h.2.2; omega)
            obtain rfl : r = false := by
              cases r with
              | false => rfl
              | true => exact absurd (hr.out.1 rfl) hbad.out
            clear hno
            go_upto_region 6 with (fail)
            refine wp_region_lit ?_
            refine wpList_run rfl (.bool false) (by simp [go_sem]) ?_
            simp only [Act.put, List.setIfInBounds_toArray, List.set_cons_zero, List.set_cons_succ]
            refine wpList_run rfl (.bool false) (by simp [go_sem]) ?_
            simp only [Act.put, List.setIfInBounds_toArray, List.set_cons_zero, List.set_cons_succ]
            refine wpList_runW rfl (.int .i64 (bs k)) (by simp [go_sem]) ?_
            simp only [Act.put, List.setIfInBounds_toArray, List.set_cons_zero, List.set_cons_succ]
            refine wpList_runW rfl (.bool false) (by simp [go_sem, hb0]) ?_
            simp only [Act.put, List.setIfInBounds_toArray, List.set_cons_zero, List.set_cons_succ]
            refine wpList_run rfl (.bool false) (by simp [go_sem]) ?_
            simp only [Act.put, List.setIfInBounds_toArray, List.set_cons_zero, List.set_cons_succ]
            refine wpList_run rfl (.bool false) (by simp [go_sem]) ?_
            simp only [Act.put, List.setIfInBounds_toArray, List.set_cons_zero, List.set_cons_succ]
            refine wpList_runW rfl (.int .i64 (bs k)) (by simp [go_sem]) ?_
            simp only [Act.put, List.setIfInBounds_toArray, List.set_cons_zero, List.set_cons_succ]
            refine wpList_runW rfl (.bool true) (by simp [go_sem, hb1]) ?_
            simp only [Act.put, List.setIfInBounds_toArray, List.set_cons_zero, List.set_cons_succ]
            refine wpList_run rfl (.bool true) (by simp [go_sem]) ?_
            simp only [Act.put, List.setIfInBounds_toArray, List.set_cons_zero, List.set_cons_succ]
            go_wp2
            go_ret
            exact ⟨rfl, hE2.out⟩
          · obtain ⟨x3, hr3, hM3, hg3, _⟩ := hM2.out.put (t := 102) Tryd.underlying3 Tryd.underlying102 (by unfold maxLen; omega) hki (.agg #[])
            have hE3 : Hid (Ext w x3) := Below.trans hE2.out (below_grown (Below.size hE2.out) hg3 fun q hq => by injection hq with hq; rw [← hq, hmb.out]; exact Nat.le_refl _)
            have hM4 : Hid (MapAt Tryd.prog 3 mb (k + 1) (mB bs (k + 1)) x3) := hM3
            have hB4 : Hid (rbs (k + 1) bs) := fun i hi => by
              by_cases e : i = k
              · subst e
                refine ⟨⟨by omega, by omega⟩, fun j hj e => ?_⟩
                have := htw2.out.2 ⟨j, hj, e⟩
                cases this
              · exact hB.out i (by omega)
            clear hno hM3 hg3 hM2 hE2 hB htw2
            go_upto_region 6 with (fail)
            refine wp_region_lit ?_
            refine wpList_run rfl (.bool false) (by simp [go_sem]) ?_
            simp only [Act.put, List.setIfInBounds_toArray, List.set_cons_zero, List.set_cons_succ]
            refine wpList_run rfl (.bool false) (by simp [go_sem]) ?_
            simp only [Act.put, List.setIfInBounds_toArray, List.set_cons_zero, List.set_cons_succ]
            refine wpList_runW rfl (.int .i64 (bs k)) (by simp [go_sem]) ?_
            simp only [Act.put, List.setIfInBounds_toArray, List.set_cons_zero, List.set_cons_succ]
            refine wpList_runW rfl (.bool false) (by simp [go_sem, hb0]) ?_
            simp only [Act.put, List.setIfInBounds_toArray, List.set_cons_zero, List.set_cons_succ]
            refine wpList_run rfl (.bool false) (by simp [go_sem]) ?_
            simp only [Act.put, List.setIfInBounds_toArray, List.set_cons_zero, List.set_cons_succ]
            refine wpList_run rfl (.bool false) (by simp [go_sem]) ?_
            simp only [Act.put, List.setIfInBounds_toArray, List.set_cons_zero, List.set_cons_succ]
            refine wpList_runW rfl (.int .i64 (bs k)) (by simp [go_sem]) ?_
            simp only [Act.put, List.setIfInBounds_toArray, List.set_cons_zero, List.set_cons_succ]
            refine wpList_runW rfl (.bool false) (by simp [go_sem, hb1]) ?_
            simp only [Act.put, List.setIfInBounds_toArray, List.set_cons_zero, List.set_cons_succ]
            refine wpList_run rfl (.bool false) (by simp [go_sem]) ?_
            simp only [Act.put, List.setIfInBounds_toArray, List.set_cons_zero, List.set_cons_succ]
            go_upto_region 8 with (fail)
            refine wp_region_lit ?_
            refine wpList_run rfl (.map (some mb)) (by simp [go_sem]) ?_
            simp only [Act.put, List.setIfInBounds_toArray, List.set_cons_zero, List.set_cons_succ]
            refine wpList_run rfl (.int .i64 (bs k)) (by simp [go_sem]) ?_
            simp only [Act.put, List.setIfInBounds_toArray, List.set_cons_zero, List.set_cons_succ]
            refine wpList_run rfl (.agg #[]) (by simp [go_sem]) ?_
            simp only [Act.put, List.setIfInBounds_toArray, List.set_cons_zero, List.set_cons_succ]
            refine wpList_st9 rfl x3 (exec_mput (.tmp 30) (.tmp 31) (.tmp 32) rfl rfl rfl rfl hr3) ?_
            simp only [Act.put]
            clear hr3
            go_wp2
            exact ⟨⟨k + 1, by omega, by go_num, hM4.out, hB4.out, hE3.out⟩, by simp [intOf]; omega⟩
    · obtain rfl : k = n := by omega
      have k1 : ¬ (k : Int) < (k : Int) := by omega
      obtain rfl : r = true := hr.out.2 hB
      replace hE := hideit hE
      clear hM hB
      go_wp2
      go_ret
      exact ⟨rfl, hE.out⟩
/-- may there be such a plan? -/
def mayP (x t : BitVec 64) (n : Nat) (bs : Nat → Int) : Prop := x ≠ 0#64 ∧ 1 ≤ n ∧ n ≤ 64 ∧ t >>> n = 0#64 ∧ rbs n bs
theorem u0 {x : BitVec 64} : x.toNat = 0 ↔ x = 0#64 := by
  constructor
  · intro h
    exact BitVec.eq_of_toNat_eq h
  · rintro rfl
    rfl
set_option maxRecDepth 20000 in
set_option maxHeartbeats 4000000 in
theorem may_any (x t : BitVec 64) (v0 : Value) (n : Nat) (bs : Nat → Int) (w : World) (hL : IL v0 n bs w) (hn : n ≤ 4398046511104) (r : Bool) (hr : r = true ↔ mayP x t n bs) : Calls Tryd.prog 22 #[plA x t v0] w fun e w' => e = .returned (.bool r) ∧ Ext w w' := by
  obtain ⟨o, cap, rfl⟩ := hL.form
  have hR1 : RowAt w.heap.size 3 (plV x t (.slice o n cap)) (w.alloc (.cells #[.int .u64 (x.toNat : Int), .int .u64 (t.toNat : Int), .slice o n cap] 47)) := RowAt.newOf w 3 _ 47 _ fun j hj => by rcases (by omega : j = 0 ∨ j = 1 ∨ j = 2) with rfl | rfl | rfl <;> rfl
  have hX1 : Hid (Ext w (w.alloc (.cells #[.int .u64 (x.toNat : Int), .int .u64 (t.toNat : Int), .slice o n cap] 47))) := (Below.refl _ _).alloc (Nat.le_refl _) _
  replace hL := hideit hL
  replace hr := hideit hr
  unfold plA
  go_enter Tryd.func22, Tryd.ntmps22
  go_upto_region 0 with (fail)
  refine wp_region_lit ?_
  refine wpList_to rfl (.pointer (some ⟨w.heap.size, 0, none⟩)) (w.alloc (.cells #[.int .u64 (x.toNat : Int), .int .u64 (t.toNat : Int), .slice o n cap] 47)) (by simp [go_sem]) ?_
  simp only [Act.put, List.setIfInBounds_toArray, List.set_cons_zero, List.set_cons_succ]
  refine wpList_run rfl (.bool false) (by simp [go_sem]) ?_
  simp only [Act.put, List.setIfInBounds_toArray, List.set_cons_zero, List.set_cons_succ]
  generalize w.alloc (.cells #[.int .u64 (x.toNat : Int), .int .u64 (t.toNat : Int), .slice o n cap] 47) = w1 at *
  generalize hcc : w.heap.size = c at hR1 ⊢
  clear hcc
  have e0 : w1.cell? ⟨c, 0, none⟩ = some (.int .u64 (x.toNat : Int)) := hR1.1 0 (by decide)
  have e1 : w1.cell? ⟨c, 1, none⟩ = some (.int .u64 (t.toNat : Int)) := hR1.1 1 (by decide)
  have e2 : w1.cell? ⟨c, 2, none⟩ = some (.slice o n cap) := hR1.1 2 (by decide)
  clear hR1
  go_upto_region 1 with (fail)
  refine wp_region_lit ?_
  refine wpList_run rfl (.pointer (some ⟨c, 2, none⟩)) (by simp [go_sem]) ?_
  simp only [Act.put, List.setIfInBounds_toArray, List.set_cons_zero, List.set_cons_succ]
  refine wpList_run rfl (.slice o n cap) (by simp [go_sem, e2]) ?_
  simp only [Act.put, List.setIfInBounds_toArray, List.set_cons_zero, List.set_cons_succ]
  refine wpList_run rfl (.int .i64 (n : Int)) (by simp [go_sem]) ?_
  simp only [Act.put, List.setIfInBounds_toArray, List.set_cons_zero, List.set_cons_succ]
  refine wpList_run rfl (.int .i64 (n : Int)) (by simp [go_sem]) ?_
  simp only [Act.put, List.setIfInBounds_toArray, List.set_cons_zero, List.set_cons_succ]
  go_upto_region 2 with (fail)
  refine wp_region_lit ?_
  by_cases hx : x = 0#64
  · have hx0 : x.toNat = 0 := u0.2 hx
    replace hx : ¬ x ≠ 0#64 := fun h => h hx
    obtain rfl : r = false := by
      cases r with
      | false => rfl
      | true => exact absurd (hr.out.1 rfl) (fun h => hx h.1)
    refine wpList_run rfl (.pointer (some ⟨c, 0, none⟩)) (by simp [go_sem]) ?_
    simp only [Act.put, List.setIfInBounds_toArray, List.set_cons_zero, List.set_cons_succ]
    refine wpList_run rfl (.int .u64 (x.toNat : Int)) (by simp [go_sem, e0]) ?_
    simp only [Act.put, List.setIfInBounds_toArray, List.set_cons_zero, List.set_cons_succ]
    refine wpList_run rfl (.bool false) (by simp [go_sem, hx0]) ?_
    simp only [Act.put, List.setIfInBounds_toArray, List.set_cons_zero, List.set_cons_succ]
    refine wpList_run rfl (.bool false) (by simp [go_sem]) ?_
    simp only [Act.put, List.setIfInBounds_toArray, List.set_cons_zero, List.set_cons_succ]
    refine wpList_skip rfl ?_
    simp only [Act.put, List.setIfInBounds_toArray, List.set_cons_zero, List.set_cons_succ]
    refine wpList_skip rfl ?_
    simp only [Act.put, List.setIfInBounds_toArray, List.set_cons_zero, List.set_cons_succ]
    refine wpList_run rfl (.bool false) (by simp [go_sem]) ?_
    simp only [Act.put, List.setIfInBounds_toArray, List.set_cons_zero, List.set_cons_succ]
    refine wpList_run rfl (.bool false) (by simp [go_sem]) ?_
    simp only [Act.put, List.setIfInBounds_toArray, List.set_cons_zero, List.set_cons_succ]
    refine wpList_skip rfl ?_
    simp only [Act.put, List.setIfInBounds_toArray, List.set_cons_zero, List.set_cons_succ]
    refine wpList_skip rfl ?_
    simp only [Act.put, List.setIfInBounds_toArray, List.set_cons_zero, List.set_cons_succ]
    refine wpList_run rfl (.bool false) (by simp [go_sem]) ?_
    simp only [Act.put, List.setIfInBounds_toArray, List.set_cons_zero, List.set_cons_succ]
    refine wpList_run rfl (.bool false) (by simp [go_sem]) ?_
    simp only [Act.put, List.setIfInBounds_toArray, List.set_cons_zero, List.set_cons_succ]
    refine wpList_skip rfl ?_
    simp only [Act.put, List.setIfInBounds_toArray, List.set_cons_zero, List.set_cons_succ]
    refine wpList_skip rfl ?_
    simp only [Act.put, List.setIfInBounds_toArray, List.set_cons_zero, List.set_cons_succ]
    refine wpList_skip rfl ?_
    simp only [Act.put, List.setIfInBounds_toArray, List.set_cons_zero, List.set_cons_succ]
    refine wpList_skip rfl ?_
    simp only [Act.put, List.setIfInBounds_toArray, List.set_cons_zero, List.set_cons_succ]
    refine wpList_skip rfl ?_
    simp only [Act.put, List.setIfInBounds_toArray, List.set_cons_zero, List.set_cons_succ]
    refine wpList_run rfl (.bool false) (by simp [go_sem]) ?_
    simp only [Act.put, List.setIfInBounds_toArray, List.set_cons_zero, List.set_cons_succ]
    refine wpList_run rfl (.bool false) (by simp [go_sem]) ?_
    simp only [Act.put, List.setIfInBounds_toArray, List.set_cons_zero, List.set_cons_succ]
    refine wpList_skip rfl ?_
    simp only [Act.put, List.setIfInBounds_toArray, List.set_cons_zero, List.set_cons_succ]
    refine wpList_skip rfl ?_
    simp only [Act.put, List.setIfInBounds_toArray, List.set_cons_zero, List.set_cons_succ]
    refine wpList_skip rfl ?_
    simp only [Act.put, List.setIfInBounds_toArray, List.set_cons_zero, List.set_cons_succ]
    refine wpList_run rfl (.bool false) (by simp [go_sem]) ?_
    simp only [Act.put, List.setIfInBounds_toArray, List.set_cons_zero, List.set_cons_succ]
    refine wpList_run rfl (.bool false) (by simp [go_sem]) ?_
    simp only [Act.put, List.setIfInBounds_toArray, List.set_cons_zero, List.set_cons_succ]
    clear e0 e1 e2
    go_wp2
    go_ret
    exact ⟨rfl, hX1.out⟩
  · have hx0 : ¬ x.toNat = 0 := fun h => hx (u0.1 h)
    by_cases hn1 : 1 ≤ n
    · have i1 : (1 : Int) ≤ (n : Int) := by omega
      by_cases hn6 : n ≤ 64
      · have i6 : (n : Int) ≤ 64 := by omega
        have hs := shr_nat t n
        rw [Nat.min_eq_left hn6] at hs
        obtain ⟨s, hse⟩ : ∃ s, s = t >>> n := ⟨_, rfl⟩
        rw [← hse] at hs
        by_cases ht : t >>> n = 0#64
        · have hs0 : s.toNat = 0 := u0.2 (by rw [hse]; exact ht)
          have ka := hideit (areB_any (.slice o n cap) n bs w1 (hL.out.ext hX1.out) hn r (by
            rw [hr.out]
            exact ⟨fun h => h.2.2.2.2, fun h => ⟨hx, hn1, hn6, ht, h⟩⟩))
          clear hse hr hL
          refine wpList_run rfl (.pointer (some ⟨c, 0, none⟩)) (by simp [go_sem]) ?_
          simp only [Act.put, List.setIfInBounds_toArray, List.set_cons_zero, List.set_cons_succ]
          refine wpList_run rfl (.int .u64 (x.toNat : Int)) (by simp [go_sem, e0]) ?_
          simp only [Act.put, List.setIfInBounds_toArray, List.set_cons_zero, List.set_cons_succ]
          refine wpList_run rfl (.bool true) (by simp [go_sem, hx0]) ?_
          simp only [Act.put, List.setIfInBounds_toArray, List.set_cons_zero, List.set_cons_succ]
          refine wpList_run rfl (.bool true) (by simp [go_sem]) ?_
          simp only [Act.put, List.setIfInBounds_toArray, List.set_cons_zero, List.set_cons_succ]
          refine wpList_runW rfl (.int .i64 (n : Int)) (by simp [go_sem]) ?_
          simp only [Act.put, List.setIfInBounds_toArray, List.set_cons_zero, List.set_cons_succ]
          refine wpList_runW rfl (.bool true) (by simp [go_sem, i1]) ?_
          simp only [Act.put, List.setIfInBounds_toArray, List.set_cons_zero, List.set_cons_succ]
          refine wpList_run rfl (.bool true) (by simp [go_sem]) ?_
          simp only [Act.put, List.setIfInBounds_toArray, List.set_cons_zero, List.set_cons_succ]
          refine wpList_run rfl (.bool true) (by simp [go_sem]) ?_
          simp only [Act.put, List.setIfInBounds_toArray, List.set_cons_zero, List.set_cons_succ]
          refine wpList_runW rfl (.int .i64 (n : Int)) (by simp [go_sem]) ?_
          simp only [Act.put, List.setIfInBounds_toArray, List.set_cons_zero, List.set_cons_succ]
          refine wpList_runW rfl (.bool true) (by simp [go_sem, i6]) ?_
          simp only [Act.put, List.setIfInBounds_toArray, List.set_cons_zero, List.set_cons_succ]
          refine wpList_run rfl (.bool true) (by simp [go_sem]) ?_
          simp only [Act.put, List.setIfInBounds_toArray, List.set_cons_zero, List.set_cons_succ]
          refine wpList_run rfl (.bool true) (by simp [go_sem]) ?_
          simp only [Act.put, List.setIfInBounds_toArray, List.set_cons_zero, List.set_cons_succ]
          refine wpList_runW rfl (.pointer (some ⟨c, 1, none⟩)) (by simp [go_sem]) ?_
          simp only [Act.put, List.setIfInBounds_toArray, List.set_cons_zero, List.set_cons_succ]
          refine wpList_runW rfl (.int .u64 (t.toNat : Int)) (by simp [go_sem, e1]) ?_
          simp only [Act.put, List.setIfInBounds_toArray, List.set_cons_zero, List.set_cons_succ]
          refine wpList_runW rfl (.int .i64 (n : Int)) (by simp [go_sem]) ?_
          simp only [Act.put, List.setIfInBounds_toArray, List.set_cons_zero, List.set_cons_succ]
          refine wpList_runW rfl (.int .u64 (s.toNat : Int)) (by simp [go_sem, hs]) ?_
          simp only [Act.put, List.setIfInBounds_toArray, List.set_cons_zero, List.set_cons_succ]
          refine wpList_runW rfl (.bool true) (by simp [go_sem, hs0]) ?_
          simp only [Act.put, List.setIfInBounds_toArray, List.set_cons_zero, List.set_cons_succ]
          refine wpList_run rfl (.bool true) (by simp [go_sem]) ?_
          simp only [Act.put, List.setIfInBounds_toArray, List.set_cons_zero, List.set_cons_succ]
          refine wpList_run rfl (.bool true) (by simp [go_sem]) ?_
          simp only [Act.put, List.setIfInBounds_toArray, List.set_cons_zero, List.set_cons_succ]
          refine wpList_runW rfl (.pointer (some ⟨c, 2, none⟩)) (by simp [go_sem]) ?_
          simp only [Act.put, List.setIfInBounds_toArray, List.set_cons_zero, List.set_cons_succ]
          refine wpList_runW rfl (.slice o n cap) (by simp [go_sem, e2]) ?_
          simp only [Act.put, List.setIfInBounds_toArray, List.set_cons_zero, List.set_cons_succ]
          refine wpList_callW rfl (by simp [go_sem]) ((ka.out).mono ?_)
          rintro e w9 ⟨rfl, hX9⟩
          refine ⟨_, rfl, ?_⟩
          simp only [Act.put, List.setIfInBounds_toArray, List.set_cons_zero, List.set_cons_succ]
          refine wpList_run rfl (.bool r) (by simp [go_sem]) ?_
          simp only [Act.put, List.setIfInBounds_toArray, List.set_cons_zero, List.set_cons_succ]
          refine wpList_run rfl (.bool r) (by simp [go_sem]) ?_
          simp only [Act.put, List.setIfInBounds_toArray, List.set_cons_zero, List.set_cons_succ]
          have hE9 := hideit (Ext.trans hX1.out hX9)
          clear ka hX9
          clear e0 e1 e2
          go_wp2
          go_ret
          exact ⟨rfl, hE9.out⟩
        · have hs0 : ¬ s.toNat = 0 := fun h => ht (by rw [← hse]; exact u0.1 h)
          clear hse
          obtain rfl : r = false := by
            cases r with
            | false => rfl
            | true => exact absurd (hr.out.1 rfl) (fun h => ht h.2.2.2.1)
          refine wpList_run rfl (.pointer (some ⟨c, 0, none⟩)) (by simp [go_sem]) ?_
          simp only [Act.put, List.setIfInBounds_toArray, List.set_cons_zero, List.set_cons_succ]
          refine wpList_run rfl (.int .u64 (x.toNat : Int)) (by simp [go_sem, e0]) ?_
          simp only [Act.put, List.setIfInBounds_toArray, List.set_cons_zero, List.set_cons_succ]
          refine wpList_run rfl (.bool true) (by simp [go_sem, hx0]) ?_
          simp only [Act.put, List.setIfInBounds_toArray, List.set_cons_zero, List.set_cons_succ]
          refine wpList_run rfl (.bool true) (by simp [go_sem]) ?_
          simp only [Act.put, List.setIfInBounds_toArray, List.set_cons_zero, List.set_cons_succ]
          refine wpList_runW rfl (.int .i64 (n : Int)) (by simp [go_sem]) ?_
          simp only [Act.put, List.setIfInBounds_toArray, List.set_cons_zero, List.set_cons_succ]
          refine wpList_runW rfl (.bool true) (by simp [go_sem, i1]) ?_
          simp only [Act.put, List.setIfInBounds_toArray, List.set_cons_zero, List.set_cons_succ]
          refine wpList_run rfl (.bool true) (by simp [go_sem]) ?_
          simp only [Act.put, List.setIfInBounds_toArray, List.set_cons_zero, List.set_cons_succ]
          refine wpList_run rfl (.bool true) (by simp [go_sem]) ?_
          simp only [Act.put, List.setIfInBounds_toArray, List.set_cons_zero, List.set_cons_succ]
          refine wpList_runW rfl (.int .i64 (n : Int)) (by simp [go_sem]) ?_
          simp only [Act.put, List.setIfInBounds_toArray, List.set_cons_zero, List.set_cons_succ]
          refine wpList_runW rfl (.bool true) (by simp [go_sem, i6]) ?_
          simp only [Act.put, List.setIfInBounds_toArray, List.set_cons_zero, List.set_cons_succ]
          refine wpList_run rfl (.bool true) (by simp [go_sem]) ?_
          simp only [Act.put, List.setIfInBounds_toArray, List.set_cons_zero, List.set_cons_succ]
          refine wpList_run rfl (.bool true) (by simp [go_sem]) ?_
          simp only [Act.put, List.setIfInBounds_toArray, List.set_cons_zero, List.set_cons_succ]
          refine wpList_runW rfl (.pointer (some ⟨c, 1, none⟩)) (by simp [go_sem]) ?_
          simp only [Act.put, List.setIfInBounds_toArray, List.set_cons_zero, List.set_cons_succ]
          refine wpList_runW rfl (.int .u64 (t.toNat : Int)) (by simp [go_sem, e1]) ?_
          simp only [Act.put, List.setIfInBounds_toArray, List.set_cons_zero, List.set_cons_succ]
          refine wpList_runW rfl (.int .i64 (n : Int)) (by simp [go_sem]) ?_
          simp only [Act.put, List.setIfInBounds_toArray, List.set_cons_zero, List.set_cons_succ]
          refine wpList_runW rfl (.int .u64 (s.toNat : Int)) (by simp [go_sem, hs]) ?_
          simp only [Act.put, List.setIfInBounds_toArray, List.set_cons_zero, List.set_cons_succ]
          refine wpList_runW rfl (.bool false) (by simp [go_sem, hs0]) ?_
          simp only [Act.put, List.setIfInBounds_toArray, List.set_cons_zero, List.set_cons_succ]
          refine wpList_run rfl (.bool false) (by simp [go_sem]) ?_
          simp only [Act.put, List.setIfInBounds_toArray, List.set_cons_zero, List.set_cons_succ]
          refine wpList_run rfl (.bool false) (by simp [go_sem]) ?_
          simp only [Act.put, List.setIfInBounds_toArray, List.set_cons_zero, List.set_cons_succ]
          refine wpList_skip rfl ?_
          simp only [Act.put, List.setIfInBounds_toArray, List.set_cons_zero, List.set_cons_succ]
          refine wpList_skip rfl ?_
          simp only [Act.put, List.setIfInBounds_toArray, List.set_cons_zero, List.set_cons_succ]
          refine wpList_skip rfl ?_
          simp only [Act.put, List.setIfInBounds_toArray, List.set_cons_zero, List.set_cons_succ]
          refine wpList_run rfl (.bool false) (by simp [go_sem]) ?_
          simp only [Act.put, List.setIfInBounds_toArray, List.set_cons_zero, List.set_cons_succ]
          refine wpList_run rfl (.bool false) (by simp [go_sem]) ?_
          simp only [Act.put, List.setIfInBounds_toArray, List.set_cons_zero, List.set_cons_succ]
          clear e0 e1 e2
          go_wp2
          go_ret
          exact ⟨rfl, hX1.out⟩
      · have i6 : ¬ (n : Int) ≤ 64 := by omega
        obtain rfl : r = false := by
          cases r with
          | false => rfl
          | true => exact absurd (hr.out.1 rfl) (fun h => hn6 h.2.2.1)
        refine wpList_run rfl (.pointer (some ⟨c, 0, none⟩)) (by simp [go_sem]) ?_
        simp only [Act.put, List.setIfInBounds_toArray, List.set_cons_zero, List.set_cons_succ]
        refine wpList_run rfl (.int .u64 (x.toNat : Int)) (by simp [go_sem, e0]) ?_
        simp only [Act.put, List.setIfInBounds_toArray, List.set_cons_zero, List.set_cons_succ]
        refine wpList_run rfl (.bool true) (by simp [go_sem, hx0]) ?_
        simp only [Act.put, List.setIfInBounds_toArray, List.set_cons_zero, List.set_cons_succ]
        refine wpList_run rfl (.bool true) (by simp [go_sem]) ?_
        simp only [Act.put, List.setIfInBounds_toArray, List.set_cons_zero, List.set_cons_succ]
        refine wpList_runW rfl (.int .i64 (n : Int)) (by simp [go_sem]) ?_
        simp only [Act.put, List.setIfInBounds_toArray, List.set_cons_zero, List.set_cons_succ]
        refine wpList_runW rfl (.bool true) (by simp [go_sem, i1]) ?_
        simp only [Act.put, List.setIfInBounds_toArray, List.set_cons_zero, List.set_cons_succ]
        refine wpList_run rfl (.bool true) (by simp [go_sem]) ?_
        simp only [Act.put, List.setIfInBounds_toArray, List.set_cons_zero, List.set_cons_succ]
        refine wpList_run rfl (.bool true) (by simp [go_sem]) ?_
        simp only [Act.put, List.setIfInBounds_toArray, List.set_cons_zero, List.set_cons_succ]
        refine wpList_runW rfl (.int .i64 (n : Int)) (by simp [go_sem]) ?_
        simp only [Act.put, List.setIfInBounds_toArray, List.set_cons_zero, List.set_cons_succ]
        refine wpList_runW rfl (.bool false) (by simp [go_sem, i6]) ?_
        simp only [Act.put, List.setIfInBounds_toArray, List.set_cons_zero, List.set_cons_succ]
        refine wpList_run rfl (.bool false) (by simp [go_sem]) ?_
        simp only [Act.put, List.setIfInBounds_toArray, List.set_cons_zero, List.set_cons_succ]
        refine wpList_run rfl (.bool false) (by simp [go_sem]) ?_
        simp only [Act.put, List.setIfInBounds_toArray, List.set_cons_zero, List.set_cons_succ]
        refine wpList_skip rfl ?_
        simp only [Act.put, List.setIfInBounds_toArray, List.set_cons_zero, List.set_cons_succ]
        refine wpList_skip rfl ?_
        simp only [Act.put, List.setIfInBounds_toArray, List.set_cons_zero, List.set_cons_succ]
        refine wpList_skip rfl ?_
        simp only [Act.put, List.setIfInBounds_toArray, List.set_cons_zero, List.set_cons_succ]
        refine wpList_skip rfl ?_
        simp only [Act.put, List.setIfInBounds_toArray, List.set_cons_zero, List.set_cons_succ]
        refine wpList_skip rfl ?_
        simp only [Act.put, List.setIfInBounds_toArray, List.set_cons_zero, List.set_cons_succ]
        refine wpList_run rfl (.bool false) (by simp [go_sem]) ?_
        simp only [Act.put, List.setIfInBounds_toArray, List.set_cons_zero, List.set_cons_succ]
        refine wpList_run rfl (.bool false) (by simp [go_sem]) ?_
        simp only [Act.put, List.setIfInBounds_toArray, List.set_cons_zero, List.set_cons_succ]
        refine wpList_skip rfl ?_
        simp only [Act.put, List.setIfInBounds_toArray, List.set_cons_zero, List.set_cons_succ]
        refine wpList_skip rfl ?_
        simp only [Act.put, List.setIfInBounds_toArray, List.set_cons_zero, List.set_cons_succ]
        refine wpList_skip rfl ?_
        simp only [Act.put, List.setIfInBounds_toArray, List.set_cons_zero, List.set_cons_succ]
        refine wpList_run rfl (.bool false) (by simp [go_sem]) ?_
        simp only [Act.put, List.setIfInBounds_toArray, List.set_cons_zero, List.set_cons_succ]
        refine wpList_run rfl (.bool false) (by simp [go_sem]) ?_
        simp only [Act.put, List.setIfInBounds_toArray, List.set_cons_zero, List.set_cons_succ]
        clear e0 e1 e2
        go_wp2
        go_ret
        exact ⟨rfl, hX1.out⟩
    · have i1 : ¬ (1 : Int) ≤ (n : Int) := by omega
      obtain rfl : r = false := by
        cases r with
        | false => rfl
        | true => exact absurd (hr.out.1 rfl) (fun h => hn1 h.2.1)
      refine wpList_run rfl (.pointer (some ⟨c, 0, none⟩)) (by simp [go_sem]) ?_
      simp only [Act.put, List.setIfInBounds_toArray, List.set_cons_zero, List.set_cons_succ]
      refine wpList_run rfl (.int .u64 (x.toNat : Int)) (by simp [go_sem, e0]) ?_
      simp only [Act.put, List.setIfInBounds_toArray, List.set_cons_zero, List.set_cons_succ]
      refine wpList_run rfl (.bool true) (by simp [go_sem, hx0]) ?_
      simp only [Act.put, List.setIfInBounds_toArray, List.set_cons_zero, List.set_cons_succ]
      refine wpList_run rfl (.bool true) (by simp [go_sem]) ?_
      simp only [Act.put, List.setIfInBounds_toArray, List.set_cons_zero, List.set_cons_succ]
      refine wpList_runW rfl (.int .i64 (n : Int)) (by simp [go_sem]) ?_
      simp only [Act.put, List.setIfInBounds_toArray, List.set_cons_zero, List.set_cons_succ]
      refine wpList_runW rfl (.bool false) (by simp [go_sem, i1]) ?_
      simp only [Act.put, List.setIfInBounds_toArray, List.set_cons_zero, List.set_cons_succ]
      refine wpList_run rfl (.bool false) (by simp [go_sem]) ?_
      simp only [Act.put, List.setIfInBounds_toArray, List.set_cons_zero, List.set_cons_succ]
      refine wpList_run rfl (.bool false) (by simp [go_sem]) ?_
      simp only [Act.put, List.setIfInBounds_toArray, List.set_cons_zero, List.set_cons_succ]
      refine wpList_skip rfl ?_
      simp only [Act.put, List.setIfInBounds_toArray, List.set_cons_zero, List.set_cons_succ]
      refine wpList_skip rfl ?_
      simp only [Act.put, List.setIfInBounds_toArray, List.set_cons_zero, List.set_cons_succ]
      refine wpList_run rfl (.bool false) (by simp [go_sem]) ?_
      simp only [Act.put, List.setIfInBounds_toArray, List.set_cons_zero, List.set_cons_succ]
      refine wpList_run rfl (.bool false) (by simp [go_sem]) ?_
      simp only [Act.put, List.setIfInBounds_toArray, List.set_cons_zero, List.set_cons_succ]
      refine wpList_skip rfl ?_
      simp only [Act.put, List.setIfInBounds_toArray, List.set_cons_zero, List.set_cons_succ]
      refine wpList_skip rfl ?_
      simp only [Act.put, List.setIfInBounds_toArray, List.set_cons_zero, List.set_cons_succ]
      refine wpList_skip rfl ?_
      simp only [Act.put, List.setIfInBounds_toArray, List.set_cons_zero, List.set_cons_succ]
      refine wpList_skip rfl ?_
      simp only [Act.put, List.setIfInBounds_toArray, List.set_cons_zero, List.set_cons_succ]
      refine wpList_skip rfl ?_
      simp only [Act.put, List.setIfInBounds_toArray, List.set_cons_zero, List.set_cons_succ]
      refine wpList_run rfl (.bool false) (by simp [go_sem]) ?_
      simp only [Act.put, List.setIfInBounds_toArray, List.set_cons_zero, List.set_cons_succ]
      refine wpList_run rfl (.bool false) (by simp [go_sem]) ?_
      simp only [Act.put, List.setIfInBounds_toArray, List.set_cons_zero, List.set_cons_succ]
      refine wpList_skip rfl ?_
      simp only [Act.put, List.setIfInBounds_toArray, List.set_cons_zero, List.set_cons_succ]
      refine wpList_skip rfl ?_
      simp only [Act.put, List.setIfInBounds_toArray, List.set_cons_zero, List.set_cons_succ]
      refine wpList_skip rfl ?_
      simp only [Act.put, List.setIfInBounds_toArray, List.set_cons_zero, List.set_cons_succ]
      refine wpList_run rfl (.bool false) (by simp [go_sem]) ?_
      simp only [Act.put, List.setIfInBounds_toArray, List.set_cons_zero, List.set_cons_succ]
      refine wpList_run rfl (.bool false) (by simp [go_sem]) ?_
      simp only [Act.put, List.setIfInBounds_toArray, List.set_cons_zero, List.set_cons_succ]
      clear e0 e1 e2
      go_wp2
      go_ret
      exact ⟨rfl, hX1.out⟩
end Go.Proofs.YtedgopionpdfeaaDoor
