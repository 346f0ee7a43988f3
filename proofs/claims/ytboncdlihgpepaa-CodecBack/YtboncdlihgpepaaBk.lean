/-
  Ops that were written and are read back: their bytes, one behind the other.
-/
import Derived.Test.YtboncdlihgpepaaLst
import Derived.Test.YtboncdlihgpepaaOpenO
import Derived.Test.YtboncdlihgpepaaOwnK
namespace Go.Proofs.Ytboncdlihgpepaa
open Go.RowKit Go.BigFrame
theorem le_by1 (g : Nat → BitVec 8) (x : BitVec 64) (h : ∀ j, j < 1 → g j = byB x j) (hx : x.toNat < 256) : leN g 1 = x := by
  apply BitVec.eq_of_toNat_eq
  rw [(leN_nat g 1 (by omega)).1]
  have e0 := byB_nat x 0
  simp only [leS, h 0 (by omega), e0]
  clear e0 h
  generalize x.toNat = q at *
  omega
theorem le_by2 (g : Nat → BitVec 8) (x : BitVec 64) (h : ∀ j, j < 2 → g j = byB x j) (hx : x.toNat < 65536) : leN g 2 = x := by
  apply BitVec.eq_of_toNat_eq
  rw [(leN_nat g 2 (by omega)).1]
  have e0 := byB_nat x 0
  have e1 := byB_nat x 1
  simp only [leS, h 0 (by omega), h 1 (by omega), e0, e1]
  clear e0 e1 h
  generalize x.toNat = q at *
  omega
theorem le_by4 (g : Nat → BitVec 8) (x : BitVec 64) (h : ∀ j, j < 4 → g j = byB x j) (hx : x.toNat < 4294967296) : leN g 4 = x := by
  apply BitVec.eq_of_toNat_eq
  rw [(leN_nat g 4 (by omega)).1]
  have e0 := byB_nat x 0
  have e1 := byB_nat x 1
  have e2 := byB_nat x 2
  have e3 := byB_nat x 3
  simp only [leS, h 0 (by omega), h 1 (by omega), h 2 (by omega), h 3 (by omega), e0, e1, e2, e3]
  clear e0 e1 e2 e3 h
  generalize x.toNat = q at *
  omega
theorem le_byN (g : Nat → BitVec 8) (x : BitVec 64) (n : Nat) (hn : iswB n = true) (h : ∀ j, j < n → g j = byB x j) (hx : x.toNat < 2 ^ (8 * n)) : leN g n = x := by
  have hc : n = 1 ∨ n = 2 ∨ n = 4 ∨ n = 8 := by
    unfold iswB at hn
    simp only [Bool.or_eq_true, beq_iff_eq] at hn
    omega
  rcases hc with rfl | rfl | rfl | rfl
  · exact le_by1 g x h hx
  · exact le_by2 g x h hx
  · exact le_by4 g x h hx
  · exact le_by g x h
/-- lengths, one behind the other -/
def sumN (ls : Nat → Nat) : Nat → Nat
  | 0 => 0
  | k + 1 => sumN ls k + ls k
theorem sumN_le (ls : Nat → Nat) : ∀ k m, k ≤ m → sumN ls k ≤ sumN ls m := by
  intro k m h
  induction h with
  | refl => exact Nat.le_refl _
  | step _ ih => exact Nat.le_trans ih (Nat.le_add_right _ _)
theorem sumN_congr (ls ls' : Nat → Nat) : ∀ k, (∀ j, j < k → ls j = ls' j) → sumN ls k = sumN ls' k
  | 0, _ => rfl
  | k + 1, h => by simp only [sumN]; rw [sumN_congr ls ls' k (fun j hj => h j (by omega)), h k (by omega)]
theorem sumN_bound (ls : Nat → Nat) (B : Nat) : ∀ k, (∀ j, j < k → ls j ≤ B) → sumN ls k ≤ k * B
  | 0, _ => by simp [sumN]
  | k + 1, h => by
    have := sumN_bound ls B k (fun j hj => h j (by omega))
    have := h k (by omega)
    simp only [sumN, Nat.add_mul]
    omega
/-- bytes, one behind the other -/
def encF (ls : Nat → Nat) (bs : Nat → Nat → BitVec 8) : Nat → Nat → BitVec 8
  | 0 => fun _ => 0#8
  | k + 1 => catF (encF ls bs k) (sumN ls k) (bs k)
theorem encF_at (ls : Nat → Nat) (bs : Nat → Nat → BitVec 8) : ∀ m k j, k < m → j < ls k → encF ls bs m (sumN ls k + j) = bs k j := by
  intro m
  induction m with
  | zero => intro k j hk; omega
  | succ m ih =>
    intro k j hk hj
    simp only [encF]
    unfold catF
    by_cases h : k < m
    · have := sumN_le ls (k + 1) m (by omega)
      simp only [sumN] at this
      rw [if_pos (by omega)]
      exact ih k j h hj
    · obtain rfl : k = m := by omega
      rw [if_neg (by omega), Nat.add_sub_cancel_left]
/-- the cells of a list of Ops -/
def opc (ks ns : Nat → Int) (xs : Nat → BitVec 64) (us : Nat → Value) (j : Nat) : Value := opv (ks (j / 4)) (ns (j / 4)) (xs (j / 4)) (us (j / 4)) (j % 4)
/-- an Op that may be written: l bytes, told by b -/
def GoodOp (k n : Int) (x : BitVec 64) (u : Value) (l : Nat) (b : Nat → BitVec 8) (w : World) : Prop :=
  (k = 1 ∧ n = (l : Int) ∧ iswB (l : Int) = true ∧ l ≤ 8 ∧ x.toNat < 2 ^ (8 * l) ∧ ∀ i, i < l → b i = byB x i) ∨ (k = 2 ∧ PV u l b w ∧ l < 1000)
theorem GoodOp.le {k n : Int} {x : BitVec 64} {u : Value} {l : Nat} {b : Nat → BitVec 8} {w : World} (h : GoodOp k n x u l b w) : l ≤ 1000 := by
  rcases h with ⟨_, _, _, h, _⟩ | ⟨_, _, h⟩ <;> omega
/-- Ops that were taken: m of them, size bytes together -/
structure Did (w0 : World) (v : Value) (m : Nat) (ks ns : Nat → Int) (xs : Nat → BitVec 64) (us : Nat → Value) (ls : Nat → Nat) (bs : Nat → Nat → BitVec 8) (X : World) : Prop where
  own : OwnK 4 w0.heap.size 31 v m (opc ks ns xs us) X
  good : ∀ j, j < m → GoodOp (ks j) (ns j) (xs j) (us j) (ls j) (bs j) w0
/-- one more at the end -/
def snoc {α : Type} (f : Nat → α) (m : Nat) (a : α) (j : Nat) : α := if j < m then f j else a
theorem snoc_lt {α : Type} {f : Nat → α} {m : Nat} {a : α} {j : Nat} (h : j < m) : snoc f m a j = f j := if_pos h
theorem snoc_at {α : Type} {f : Nat → α} {m : Nat} {a : α} : snoc f m a m = a := if_neg (Nat.lt_irrefl _)
theorem opc_snoc_lt {ks ns : Nat → Int} {xs : Nat → BitVec 64} {us : Nat → Value} {m : Nat} {k n : Int} {x : BitVec 64} {u : Value} (j : Nat) (h : j < m * 4) : opc ks ns xs us j = opc (snoc ks m k) (snoc ns m n) (snoc xs m x) (snoc us m u) j := by
  unfold opc
  rw [snoc_lt (by omega), snoc_lt (by omega), snoc_lt (by omega), snoc_lt (by omega)]
theorem opc_snoc_at {ks ns : Nat → Int} {xs : Nat → BitVec 64} {us : Nat → Value} {m : Nat} {k n : Int} {x : BitVec 64} {u : Value} (j : Nat) (h : j < 1 * 4) : opv k n x u j = opc (snoc ks m k) (snoc ns m n) (snoc xs m x) (snoc us m u) (m * 4 + j) := by
  unfold opc
  rw [show (m * 4 + j) / 4 = m by omega, show (m * 4 + j) % 4 = j by omega, snoc_at, snoc_at, snoc_at, snoc_at]
theorem good_snoc {w0 : World} {m : Nat} {ks ns : Nat → Int} {xs : Nat → BitVec 64} {us : Nat → Value} {ls : Nat → Nat} {bs : Nat → Nat → BitVec 8} (h : ∀ j, j < m → GoodOp (ks j) (ns j) (xs j) (us j) (ls j) (bs j) w0) {k n : Int} {x : BitVec 64} {u : Value} {l : Nat} {b : Nat → BitVec 8} (hg : GoodOp k n x u l b w0) :
    ∀ j, j < m + 1 → GoodOp (snoc ks m k j) (snoc ns m n j) (snoc xs m x j) (snoc us m u j) (snoc ls m l j) (snoc bs m b j) w0 := fun j hj => by
  by_cases h1 : j < m
  · rw [snoc_lt h1, snoc_lt h1, snoc_lt h1, snoc_lt h1, snoc_lt h1, snoc_lt h1]
    exact h j h1
  · obtain rfl : j = m := by omega
    rw [snoc_at, snoc_at, snoc_at, snoc_at, snoc_at, snoc_at]
    exact hg
theorem sumN_snoc {ls : Nat → Nat} {m l : Nat} : sumN (snoc ls m l) (m + 1) = sumN ls m + l := by
  simp only [sumN, snoc_at]
  rw [sumN_congr _ ls m fun j hj => snoc_lt hj]
theorem elem23 : ElemK Try.prog 23 31 4 48 := elem_k Try.underlying23 (by kernel_rfl) (by kernel_rfl) (by kernel_rfl)
end Go.Proofs.Ytboncdlihgpepaa
