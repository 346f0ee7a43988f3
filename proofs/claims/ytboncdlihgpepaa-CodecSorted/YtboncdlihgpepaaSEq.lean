/-
  Parts of rows; when arrays of bytes within structs are the same; no word of the program.
-/
import Derived.Test.YtboncdlihgpepaaEql
namespace Go.Proofs.Ytboncdlihgpepaa
open Go.RowKit Go.BigFrame
section
variable {P : Program}
theorem row_extract (n m off : Nat) (g : Nat → Value) (h : off + m ≤ n) : (row n g).toArray.extract off (off + m) = (row m fun j => g (off + j)).toArray := by
  apply Array.ext
  · simp [row_length]; omega
  · intro i h1 h2
    simp [row]
theorem part_arr {t : TypeId} {n m off : Nat} {g : Nat → Value} {w : World} (ha : (isAgg t).run P w = .ok true w) (hs : (sizeOf t).run P w = .ok m w) (h : off + m ≤ n) :
    (part t (row n g).toArray off).run P w = .ok (.agg (row m fun j => g (off + j)).toArray) w := by
  unfold part
  simp only [Sem.run_bind, ha, hs, Result.andThen_ok, if_true, Sem.run_pure, row_extract n m off g h]
theorem part_one {t : TypeId} {n off : Nat} {g : Nat → Value} {w : World} (ha : (isAgg t).run P w = .ok false w) (h : off < n) :
    (part t (row n g).toArray off).run P w = .ok (g off) w := by
  unfold part
  have hg : (row n g).toArray[off]? = some (g off) := by rw [List.getElem?_toArray]; exact row_get n g off h
  simp only [Sem.run_bind, ha, Result.andThen_ok, Bool.false_eq_true, if_false, hg, Sem.run_pure]
theorem equalIn_row (d : Nat) (t e : TypeId) (n : Nat) (k : IntKind) (ht : P.underlying t = some (.array n e)) (he : P.underlying e = some (.int k)) (hsz : ∀ w, (sizeOf e).run P w = .ok 1 w) (z z' : Nat → Int) (w : World) :
    (Op.equalIn (d + 2) t (.agg (row n fun j => .int k (z j)).toArray) (.agg (row n fun j => .int k (z' j)).toArray)).run P w = .ok ((List.range n).all fun j => z j == z' j) w := by
  rw [List.range_eq_range', Op.equalIn]
  simp only [Sem.run_bind, run_underlying ht, Result.andThen_ok, hsz, Std.Legacy.Range.forIn_eq_forIn_range', Std.Legacy.Range.size, Nat.sub_zero, Nat.add_sub_cancel, Nat.div_one]
  have hl : ∀ i ∈ List.range' 0 n 1, i < n := fun i hi => by simpa using (List.mem_range'_1.1 hi).2
  generalize List.range' 0 n 1 = l at hl ⊢
  induction l with
  | nil => simp
  | cons i l ih =>
    have hi : i < n := hl i (by simp)
    have px : (part e (row n fun j => .int k (z j)).toArray (i * 1)).run P w = .ok (.int k (z i)) w := by
      simp [part, isAgg, run_underlying he, row_get n (fun j => Value.int k (z j)) i hi]
    have py : (part e (row n fun j => .int k (z' j)).toArray (i * 1)).run P w = .ok (.int k (z' i)) w := by
      simp [part, isAgg, run_underlying he, row_get n (fun j => Value.int k (z' j)) i hi]
    have pe : (Op.equalIn (d + 1) e (.int k (z i)) (.int k (z' i))).run P w = .ok (z i == z' i) w := run_equalIn_int w d e k k _ _ he
    simp only [List.forIn_cons, Sem.run_bind, px, py, pe, Result.andThen_ok, List.all_cons]
    cases hb : (z i == z' i)
    · simp
    · simp only [Bool.not_true, Bool.false_eq_true, if_false, Sem.run_pure, Result.andThen_ok, Bool.true_and]
      exact ih fun j hj => hl j (by simp [hj])
theorem eqFields_cons (d : Nat) (xs ys : Array Value) (f : Field) (fs : List Field) (x y : Value) (r s : Bool) (w : World) (hn : f.name ≠ "_") (hx : (part f.type xs f.offset).run P w = .ok x w) (hy : (part f.type ys f.offset).run P w = .ok y w)
    (hr : (Op.equalIn d f.type x y).run P w = .ok r w) (hs : (Op.eqFields d xs ys fs).run P w = .ok s w) : (Op.eqFields d xs ys (f :: fs)).run P w = .ok (r && s) w := by
  rw [Op.eqFields, if_pos hn]
  simp only [Sem.run_bind, hx, hy, hr, Result.andThen_ok]
  cases r
  · simp
  · simp only [Bool.not_true, Bool.false_eq_true, if_false, Bool.true_and]
    exact hs
theorem eqFields_nil (d : Nat) (xs ys : Array Value) (w : World) : (Op.eqFields d xs ys []).run P w = .ok true w := by
  rw [Op.eqFields]; rfl
end
theorem all_iff (n : Nat) (f g : Nat → BitVec 8) : ((List.range n).all fun j => ((f j).toNat : Int) == ((g j).toNat : Int)) = decide (∀ j, j < n → f j = g j) := by
  rw [Bool.eq_iff_iff, List.all_eq_true, decide_eq_true_iff]
  constructor
  · intro h j hj
    have := h j (by simpa using hj)
    rw [beq_iff_eq] at this
    exact BitVec.eq_of_toNat_eq (by omega)
  · intro h j hj
    rw [h j (by simpa using hj)]
    exact beq_self_eq_true _
end Go.Proofs.Ytboncdlihgpepaa
