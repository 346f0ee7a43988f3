/-
  Lists of kept writes; a disk's lasting writes.
-/
import Derived.Test.YtfaeieaelfjlpaaDk7
namespace Go.Proofs.Ytfaeieaelfjlpaa
open Go.RowKit Go.BigFrame Go.Maps
theorem exec_loadR {P : Program} {o : Oper} {a : Act} {w : World} (t : TypeId) (x : Operand) (ho : o.op = .load t x) (b off n : Nat) (g : Nat → Value) {d : TypeDesc} (hx : a.eval x = .pointer (some ⟨b, off, none⟩)) (h : w.rangeAt b off (row n g))
    (hu : P.underlying t = some d) (hd : d.isRow = true) (hi : (P.info? t).map (·.size) = some n) : (execOp a.eval o).run P w = .ok (.value (.agg (row n g).toArray)) w := by
  unfold execOp
  simp only [ho, hx, Instr.loadAt, Instr.sureAddr, Sem.run_bind, Sem.run_pure, Result.andThen_ok, run_loadVar_mid (P := P) w b off t (row n g) _ h hu hd (by rw [row_length]; exact hi)]
theorem exec_loadL {P : Program} {o : Oper} {a : Act} {w : World} (t : TypeId) (x : Operand) (ho : o.op = .load t x) (ad : Addr) (n : Nat) (g : Nat → Value) {d : TypeDesc} (hx : a.eval x = .pointer (some ad)) (h : LieAt ad n g w)
    (hu : P.underlying t = some d) (hd : d.isRow = true) (hi : (P.info? t).map (·.size) = some n) : (execOp a.eval o).run P w = .ok (.value (.agg (row n g).toArray)) w := by
  have hl := loadLie (P := P) h
  cases hq : P.info? t with
  | none => simp [hq] at hi
  | some i =>
    have hs : i.size = n := by simpa [hq] using hi
    have hagg : (isAgg t).run P w = .ok true w := by
      unfold isAgg
      rw [Sem.run_bind, run_underlying hu w]
      cases d <;> simp_all
    unfold execOp
    simp [ho, hx, Instr.loadAt, Instr.sureAddr, Sem.run_bind, loadVar, hagg, sizeOf, typeInfo, hq, hs, hl]
/-- a Kept -/
def kpI (x y : Int) (j : Nat) : Value := if j = 0 then .int .i64 x else .int .i64 y
def kpV (kb kw : Nat → Int) (j : Nat) : Value := kpI (kb (j / 2)) (kw (j / 2)) (j % 2)
/-- a list of them -/
def KL (v : Value) (n : Nat) (kb kw : Nat → Int) (W : World) : Prop := (v = .slice none 0 0 ∧ n = 0) ∨ ∃ a cap, v = .slice (some a) n cap ∧ n ≤ cap ∧ LieAt a (n * 2) (kpV kb kw) W
theorem KL.ext {v : Value} {n : Nat} {kb kw : Nat → Int} {W Y : World} (h : KL v n kb kw W) (k : Ext W Y) : KL v n kb kw Y := by
  rcases h with h | ⟨a, cap, h1, h2, h3⟩
  · exact .inl h
  · exact .inr ⟨a, cap, h1, h2, h3.carry k⟩
theorem KL.form {v : Value} {n : Nat} {kb kw : Nat → Int} {W : World} (h : KL v n kb kw W) : ∃ o cap, v = .slice o n cap := by
  rcases h with ⟨rfl, rfl⟩ | ⟨a, cap, rfl, _⟩
  · exact ⟨_, _, rfl⟩
  · exact ⟨_, _, rfl⟩
theorem kl_at {a : Addr} {n : Nat} {kb kw : Nat → Int} {W : World} (h : LieAt a (n * 2) (kpV kb kw) W) (i : Nat) (hi : i < n) : LieAt (a.add (i * 2)) 2 (kpI (kb i) (kw i)) W :=
  ⟨fun j hj => by
    rw [add_add, h.1 (i * 2 + j) (by omega)]
    unfold kpV
    rw [show (i * 2 + j) / 2 = i by omega, show (i * 2 + j) % 2 = j by omega], by rw [add_block]; exact h.2⟩
theorem zero65 (w : World) : Sem.run Try.prog (zeroValue 65) w = .ok (.agg (row 2 (kpI 0 0)).toArray) w := by kernel_rfl
theorem info65 : (Try.prog.info? 65).map (·.size) = some 2 := by kernel_rfl
/-- s[:q] -/
theorem run_cut (w : World) {lo : Option Addr} {k lc q : Nat} (hl : lo = none → lc = 0) (hq : q ≤ lc) : (Instr.sliceAt 54 (.slice lo k lc) none (some (.int .i64 (q : Int))) none).run Try.prog w = .ok (.slice lo q lc) w := by
  have h1 : (q : Int) ≤ (lc : Int) := by omega
  cases lo with
  | none =>
    obtain rfl := hl rfl
    obtain rfl : q = 0 := by omega
    simp [go_sem]
  | some b => simp [go_sem, h1]
theorem exec_cut {o : Oper} {a : Act} {w : World} {lo : Option Addr} {k lc q : Nat} (x y : Operand) (ho : o.op = .slice 54 x none (some y) none) (hx : a.eval x = .slice lo k lc) (hy : a.eval y = .int .i64 (q : Int)) (hl : lo = none → lc = 0) (hq : q ≤ lc) :
    (execOp a.eval o).run Try.prog w = .ok (.value (.slice lo q lc)) w := by
  simp [execOp, ho, hx, hy, run_cut w (k := k) hl hq, Result.andThen]
end Go.Proofs.Ytfaeieaelfjlpaa
