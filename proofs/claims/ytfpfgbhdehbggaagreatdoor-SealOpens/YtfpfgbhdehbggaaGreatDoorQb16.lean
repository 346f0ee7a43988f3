/-
  Single operations whose run is known; blocks made at a function's beginning; what a function answers. No word of the program. Many operations at once, each with the value that it gives: a row of steps in one. No word of the program. Plain mathematics, no word of the program: products of polynomials over two elements modulo one of degree n, told as sums of doublings: they go in either order, in any groups, of sums part by part.
-/
import Derived.Test.YtfpfgbhdehbggaaGreatDoorQb15
namespace Go.Proofs.YtfpfgbhdehbggaaGreatDoor
open Go.RowKit Go.BigFrame
section
variable {P : Program}
theorem RowAt.sub {b n : Nat} {g : Nat → Value} {w : World} (h : RowAt b n g w) (off m : Nat) (hm : off + m ≤ n) (g' : Nat → Value) (hg : ∀ j, j < m → g (off + j) = g' j) : w.rangeAt b off (row m g') := fun j v hv => by
  obtain ⟨hj, rfl⟩ := row_some hv
  rw [h.1 (off + j) (by omega), hg j hj]
theorem xload {o : Oper} {a : Act} {w : World} (t : TypeId) (x : Operand) (ho : o.op = .load t x) (b off n : Nat) (g : Nat → Value) {d : TypeDesc} (hx : a.eval x = .pointer (some ⟨b, off, none⟩)) (h : w.rangeAt b off (row n g))
    (hu : P.underlying t = some d) (hd : d.isRow = true) (hi : (P.info? t).map (·.size) = some n) : (execOp a.eval o).run P w = .ok (.value (.agg (row n g).toArray)) w := by
  unfold execOp
  simp only [ho, hx, Instr.loadAt, Instr.sureAddr, Sem.run_bind, Sem.run_pure, Result.andThen_ok, run_loadVar_mid (P := P) w b off t (row n g) _ h hu hd (by rw [row_length]; exact hi)]
theorem xstore {o : Oper} {a : Act} {w : World} (t : TypeId) (x y : Operand) (ho : o.op = .store t x y) (b n : Nat) (g g' : Nat → Value) (hx : a.eval x = .pointer (some ⟨b, 0, none⟩)) (hy : a.eval y = .agg (row n g').toArray) (h : RowAt b n g w)
    (hi : (P.info? t).map (·.size) = some n) (h1 : ∀ j, j < n → (g' j).oneCell' = true) : (execOp a.eval o).run P w = .ok .skip (w.setCells b 0 (row n g')) := by
  unfold execOp
  simp only [ho, hx, hy, Instr.storeAt, Instr.sureAddr, Sem.run_bind, Sem.run_pure, Result.andThen_ok, run_storeVar_mid (P := P) w b 0 t (row n g').toArray (by rw [row_size]; exact h.there) (by rw [row_size]; exact hi) (row_one h1)]
theorem xalloc {o : Oper} {a : Act} {w : World} (t : TypeId) (Z : Array Value) (ho : o.op = .alloc t) (hz : (zeroValue t).run P w = .ok (.agg Z) w) : (execOp a.eval o).run P w = .ok (.value (.pointer (some ⟨w.heap.size, 0, none⟩))) (w.alloc (.cells Z t)) := by
  unfold execOp
  simp [ho, Instr.alloc, hz, newVar, newRow, Value.cells]
theorem xcmp {o : Oper} {a : Act} {w : World} (op : BinOp) (t u : TypeId) (x y : Operand) (ho : o.op = .binOp op t x y u) (X Y : Array Value) (hx : a.eval x = .agg X) (hy : a.eval y = .agg Y)
    (hm : P.eqGuardType P.depth t = false) (r : Bool) (hr : (binOp op t (.agg X) (.agg Y)).run P w = .ok (.bool r) w) : (execOp a.eval o).run P w = .ok (.value (.bool r)) w := by
  unfold execOp
  simp only [ho, hx, hy, Sem.run_bind, run_eqGuard_agg (P := P) w op t x y X Y hm, Result.andThen_ok, hr, Sem.run_pure]
theorem xbuild {o : Oper} {a : Act} {w : World} (t : TypeId) (l : List (Nat × Operand)) (ho : o.op = .build t l.toArray) (v : Value) (hr : (Instr.build t (l.map fun x => (x.1, a.eval x.2)).toArray).run P w = .ok v w) : (execOp a.eval o).run P w = .ok (.value v) w := by
  unfold execOp
  rw [ho]
  simp only [List.map_toArray, Sem.run_bind, hr, Result.andThen_ok, Sem.run_pure]
theorem xnot {ops : Array Oper} {rest : List Oper} {o : Oper} {a : Act} {Q : Exit → Act → World → Prop} {w : World} (hw : Region.wanted o (yielded ops a.tmps) = false) (h : wpList P ops Q rest (a.put o.dst undef) w) : wpList P ops Q (o :: rest) a w := by
  unfold wpList
  rw [if_neg (by rw [hw]; simp)]
  exact h
theorem xst {w : World} {ops : Array Oper} {rest : List Oper} {o : Oper} {a : Act} {Q : Exit → Act → World → Prop} (hg : o.guard = none) (w' : World) (hr : (execOp a.eval o).run P w = .ok .skip w') (h : wpList P ops Q rest (a.put o.dst undef) w') : wpList P ops Q (o :: rest) a w := by
  refine wpList_plain hg fun K hK => ?_
  unfold Oper.wp
  rw [hr]
  simp only [Oper.upon]
  exact hK _ _ h
theorem res2 {fn : Func} {t u : Tmp} (h : fn.results = #[.tmp t, .tmp u]) (tmps : Array Value) (P : Program) (w : World) : (results fn tmps).run P w = .ok (.tuple #[tmps.getD t undef, tmps.getD u undef]) w := by
  simp [results, h]
end
end Go.Proofs.YtfpfgbhdehbggaaGreatDoor
namespace Go.Proofs.YtfpfgbhdehbggaaGreatDoor
open Go.RowKit Go.BigFrame
def xg (ops : Array Oper) : List Oper → Act → List (Option Value) → Bool
  | _, _, [] => true
  | [], _, _ :: _ => false
  | o :: os, a, v :: vs => (Region.wanted o (yielded ops a.tmps) == v.isSome) && xg ops os (a.put o.dst (v.getD undef)) vs
def xr (P : Program) (w : World) : List Oper → Act → List (Option Value) → Prop
  | _, _, [] => True
  | [], _, _ :: _ => True
  | o :: os, a, none :: vs => xr P w os (a.put o.dst undef) vs
  | o :: os, a, some v :: vs => (execOp a.eval o).run P w = .ok (.value v) w ∧ xr P w os (a.put o.dst v) vs
def xw (P : Program) (ops : Array Oper) (Q : Exit → Act → World → Prop) (w : World) : List Oper → Act → List (Option Value) → Prop
  | os, a, [] => wpList P ops Q os a w
  | [], _, _ :: _ => True
  | o :: os, a, none :: vs => xw P ops Q w os (a.put o.dst undef) vs
  | o :: os, a, some v :: vs => xw P ops Q w os (a.put o.dst v) vs
theorem xm {P : Program} {w : World} {ops : Array Oper} {Q : Exit → Act → World → Prop} : ∀ (vs : List (Option Value)) {os : List Oper} {a : Act} (_ : xg ops os a vs = true) (_ : xr P w os a vs) (_ : xw P ops Q w os a vs), wpList P ops Q os a w
  | [], os, a, _, _, h => by cases os <;> exact h
  | v :: vs, [], a, hg, _, _ => by cases hg
  | none :: vs, o :: os, a, hg, hr, h => by
    unfold xg at hg
    rw [Bool.and_eq_true] at hg
    exact xnot (by simpa using hg.1) (xm vs hg.2 hr h)
  | some v :: vs, o :: os, a, hg, hr, h => by
    unfold xg at hg
    rw [Bool.and_eq_true] at hg
    exact wpList_runW (by simpa using hg.1) v hr.1 (xm vs hg.2 hr.2 h)
theorem p0 (a : Act) (d : Tmp) (v : Value) : a.put (some d) v = { a with tmps := a.tmps.setIfInBounds d v } := rfl
theorem p1 {α : Type} (l : List α) (i : Nat) (a : α) : l.toArray.setIfInBounds i a = (l.set i a).toArray := List.setIfInBounds_toArray ..
theorem p2 {α : Type} (x a : α) (l : List α) : (x :: l).set 0 a = a :: l := rfl
theorem p3 {α : Type} (x a : α) (l : List α) (n : Nat) : (x :: l).set (n + 1) a = x :: l.set n a := rfl
end Go.Proofs.YtfpfgbhdehbggaaGreatDoor
/-
  Plain mathematics, no word of the program: products of polynomials over two elements modulo one of degree n, told as sums of doublings: they go in either order, in any groups, of sums part by part.
-/
namespace Go.Proofs.YtfpfgbhdehbggaaGreatDoor
set_option maxRecDepth 20000
def dX {n : Nat} (r : BitVec n) (x : BitVec n) : BitVec n := (x <<< 1) ^^^ (if x.msb then r else 0#n)
def dK {n : Nat} (r : BitVec n) : Nat → BitVec n → BitVec n
  | 0, a => a
  | k + 1, a => dX r (dK r k a)
def tK {n m : Nat} (r : BitVec n) (a : BitVec n) (b : BitVec m) : Nat → BitVec n
  | 0 => 0#n
  | k + 1 => if b.getLsbD k then tK r a b k ^^^ dK r k a else tK r a b k
theorem x4 {n : Nat} (a b c d : BitVec n) : (a ^^^ b) ^^^ (c ^^^ d) = (a ^^^ c) ^^^ (b ^^^ d) := by
  ext i; simp; cases a[i] <;> cases b[i] <;> cases c[i] <;> cases d[i] <;> rfl
theorem xx {n : Nat} (a b : BitVec n) : (a ^^^ b) ^^^ b = a := by
  ext i; simp
section
variable {n m : Nat} (r : BitVec n)
theorem dX_add (x y : BitVec n) : dX r (x ^^^ y) = dX r x ^^^ dX r y := by
  unfold dX
  rw [BitVec.msb_xor, BitVec.shiftLeft_xor_distrib, x4]
  congr 1
  cases x.msb <;> cases y.msb <;> simp
theorem dX_zero : dX r 0#n = 0#n := by
  unfold dX; simp
theorem dK_add (k : Nat) (x y : BitVec n) : dK r k (x ^^^ y) = dK r k x ^^^ dK r k y := by
  induction k with
  | zero => rfl
  | succ k ih => simp only [dK, ih, dX_add]
theorem dK_zero (k : Nat) : dK r k 0#n = 0#n := by
  induction k with
  | zero => rfl
  | succ k ih => simp only [dK, ih, dX_zero]
theorem dK_succ (k : Nat) (x : BitVec n) : dK r k (dX r x) = dX r (dK r k x) := by
  induction k with
  | zero => rfl
  | succ k ih => simp only [dK, ih]
theorem tK_add_left (a a' : BitVec n) (b : BitVec m) (k : Nat) : tK r (a ^^^ a') b k = tK r a b k ^^^ tK r a' b k := by
  induction k with
  | zero => simp [tK]
  | succ k ih =>
    simp only [tK]
    split
    · rw [ih, dK_add, x4]
    · exact ih
theorem tK_zero_left (b : BitVec m) (k : Nat) : tK r 0#n b k = 0#n := by
  induction k with
  | zero => rfl
  | succ k ih =>
    simp only [tK, ih, dK_zero]
    split <;> simp
theorem tK_zero_right (a : BitVec n) (k : Nat) : tK r a 0#m k = 0#n := by
  induction k with
  | zero => rfl
  | succ k ih => simp [tK, ih]
theorem tK_add_right (a : BitVec n) (b b' : BitVec m) (k : Nat) : tK r a (b ^^^ b') k = tK r a b k ^^^ tK r a b' k := by
  induction k with
  | zero => simp [tK]
  | succ k ih =>
    simp only [tK, BitVec.getLsbD_xor, ih]
    generalize dK r k a = d
    cases b.getLsbD k <;> cases b'.getLsbD k
    · simp
    · simp [BitVec.xor_assoc]
    · have := x4 (tK r a b k) d (tK r a b' k) 0#n
      simpa using this.symm
    · have := x4 (tK r a b k) d (tK r a b' k) d
      simpa using this.symm
theorem tK_dX (a : BitVec n) (b : BitVec m) (k : Nat) : tK r (dX r a) b k = dX r (tK r a b k) := by
  induction k with
  | zero => simp [tK, dX_zero]
  | succ k ih =>
    simp only [tK]
    split
    · rw [ih, dK_succ, dX_add]
    · exact ih
theorem tK_dK (j : Nat) (a : BitVec n) (b : BitVec m) (k : Nat) : tK r (dK r j a) b k = dK r j (tK r a b k) := by
  induction j with
  | zero => rfl
  | succ j ih => simp only [dK, tK_dX, ih]
theorem tK_swap (x : BitVec n) (a b : BitVec m) (j k : Nat) : tK r (tK r x a j) b k = tK r (tK r x b k) a j := by
  induction j with
  | zero => simp [tK, tK_zero_left]
  | succ j ih =>
    simp only [tK]
    split
    · rw [tK_add_left, ih, tK_dK]
    · exact ih
theorem dK_one (k : Nat) (hk : k < n) : dK r k 1#n = BitVec.twoPow n k := by
  induction k with
  | zero => ext i hi; simp [dK, BitVec.getElem_twoPow]
  | succ k ih =>
    simp only [dK]
    rw [ih (by omega)]
    unfold dX
    have hm : (BitVec.twoPow n k).msb = false := by
      rw [BitVec.msb_eq_getLsbD_last]; simp [BitVec.getLsbD_twoPow]; omega
    rw [hm]
    ext i hi
    simp [BitVec.getElem_twoPow, BitVec.getElem_shiftLeft]
    by_cases h : i = k + 1
    · subst h; simp
    · by_cases h2 : i = 0
      · subst h2; simp
      · simp [h]; omega
theorem tK_one_bit (b : BitVec m) (k : Nat) (hk : k ≤ n) (j : Nat) : (tK r 1#n b k).getLsbD j = (decide (j < k) && b.getLsbD j) := by
  induction k with
  | zero => simp [tK]
  | succ k ih =>
    simp only [tK]
    split
    · rename_i h
      rw [BitVec.getLsbD_xor, ih (by omega), dK_one r k (by omega), BitVec.getLsbD_twoPow]
      by_cases e : j = k
      · subst e; simp [h]; omega
      · by_cases h2 : j < k
        · have h3 : j < k + 1 := by omega
          have h4 : ¬ k = j := fun h => e h.symm
          simp [h2, h3, h4]
        · have h3 : ¬ j < k + 1 := by omega
          have h4 : ¬ k = j := fun h => e h.symm
          simp [h2, h3, h4]
    · rename_i h
      rw [ih (by omega)]
      by_cases e : j = k
      · subst e; simp [h]
      · by_cases h2 : j < k
        · have h3 : j < k + 1 := by omega
          simp [h2, h3]
        · have h3 : ¬ j < k + 1 := by omega
          simp [h2, h3]
theorem tK_one (b : BitVec n) : tK r 1#n b n = b := by
  apply BitVec.eq_of_getLsbD_eq
  intro i hi
  rw [tK_one_bit r b n (Nat.le_refl _)]
  simp [hi]
theorem tK_comm (a b : BitVec n) : tK r a b n = tK r b a n := by
  have h := tK_swap r 1#n a b n n
  rwa [tK_one, tK_one] at h
theorem tK_assoc (a b c : BitVec n) : tK r (tK r a b n) c n = tK r a (tK r b c n) n := by
  rw [tK_comm r a b, tK_swap, tK_comm r (tK r b c n) a]
theorem tK_unit (a : BitVec n) : tK r a 1#n n = a := by
  rw [tK_comm, tK_one]
end
end Go.Proofs.YtfpfgbhdehbggaaGreatDoor
