/-
  When two arrays of integers are the same; bytes as strings.
-/
import Derived.Test.YtboncdlihgpepaaMild
import Derived.Laws.StructEq
import Derived.Laws.BytesString
namespace Go.Proofs.Ytboncdlihgpepaa
open Go.RowKit Go.BigFrame
section
variable {P : Program}
theorem run_eql_row (t e : TypeId) (n : Nat) (k : IntKind) (ht : P.underlying t = some (.array n e)) (he : P.underlying e = some (.int k)) (hsz : ∀ w, (sizeOf e).run P w = .ok 1 w) (z z' : Nat → Int) (w : World) :
    (binOp .eql t (.agg (row n fun j => .int k (z j)).toArray) (.agg (row n fun j => .int k (z' j)).toArray)).run P w = .ok (.bool ((List.range n).all fun j => z j == z' j)) w := by
  rw [run_eql_struct]
  have h : (Op.equalIn (9998 + 2) t (.agg (row n fun j => .int k (z j)).toArray) (.agg (row n fun j => .int k (z' j)).toArray)).run P w = .ok ((List.range n).all fun j => z j == z' j) w := by
    rw [List.range_eq_range', Op.equalIn]
    simp only [Sem.run_bind, run_underlying ht, Result.andThen_ok, hsz, Std.Legacy.Range.forIn_eq_forIn_range', Std.Legacy.Range.size, Nat.sub_zero, Nat.add_sub_cancel, Nat.div_one]
    have hl : ∀ i ∈ List.range' 0 n 1, i < n := fun i hi => by simpa using (List.mem_range'_1.1 hi).2
    generalize List.range' 0 n 1 = l at hl ⊢
    induction l with
    | nil => simp
    | cons i l ih =>
      have hi : i < n := hl i (by simp)
      have px : (part e (row n fun j => .int k (z j)).toArray (i * 1)).run P w = .ok (.int k (z i)) w := by
        simp [part, isAgg, run_underlying he, row_get n (fun j => Value.int k (z j)) i hi]
      have py : (part e (row n fun j => .int k (z' j)).toArray (i * 1)).run P w = .ok (.int k (z' i)) w := by
        simp [part, isAgg, run_underlying he, row_get n (fun j => Value.int k (z' j)) i hi]
      have pe : (Op.equalIn (9998 + 1) e (.int k (z i)) (.int k (z' i))).run P w = .ok (z i == z' i) w := run_equalIn_int w 9998 e k k _ _ he
      simp only [List.forIn_cons, Sem.run_bind, px, py, pe, Result.andThen_ok, List.all_cons]
      cases hb : (z i == z' i)
      · simp
      · simp only [Bool.not_true, Bool.false_eq_true, if_false, Sem.run_pure, Result.andThen_ok, Bool.true_and]
        exact ih fun j hj => hl j (by simp [hj])
  rw [h]
  rfl
theorem run_eql_refl (t e : TypeId) (n : Nat) (k : IntKind) (ht : P.underlying t = some (.array n e)) (he : P.underlying e = some (.int k)) (hsz : ∀ w, (sizeOf e).run P w = .ok 1 w) (z : Nat → Int) (w : World) :
    (binOp .eql t (.agg (row n fun j => .int k (z j)).toArray) (.agg (row n fun j => .int k (z j)).toArray)).run P w = .ok (.bool true) w := by
  rw [run_eql_row t e n k ht he hsz]
  simp
end
/-- so many bytes, as a string -/
def bstr (n : Nat) (z : Nat → Int) : ByteArray := ((List.range n).map z).foldl (fun r n => r.push (UInt8.ofNat n.toNat)) ByteArray.empty
theorem bstr_congr {n : Nat} {f g : Nat → Int} (h : ∀ j, j < n → f j = g j) : bstr n f = bstr n g := by
  unfold bstr
  rw [List.map_congr_left fun j hj => h j (by simpa using hj)]
end Go.Proofs.Ytboncdlihgpepaa
