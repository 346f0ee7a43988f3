/-
  The words of a key, as the cipher's own text makes them; facts on rows of cells.
-/
import Derived.Test.YtkoodgfadedeoaaQ11
import Derived.Laws.IdiomCopy
namespace Go.Proofs.Ytkoodgfadedeoaa
open Go.RowKit Go.BigFrame
def wordAt (k : Nat) (bx : Nat → BitVec 8) (p : Nat) (S : Nat → BitVec 8) (c : BitVec 8) (i : Nat) : BitVec 8 :=
  if p % k = 0 then (if i = 0 then xB (bx (S (4 * (p - 1) + 1)).toNat) c else bx (S (4 * (p - 1) + (i + 1) % 4)).toNat)
  else if k = 8 ∧ p % 8 = 4 then bx (S (4 * (p - 1) + i)).toNat else S (4 * (p - 1) + i)
/-- the bytes of words behind i bytes of the word at place p -/
def partS (k p : Nat) (wd S : Nat → BitVec 8) (i j : Nat) : BitVec 8 := if 4 * p ≤ j ∧ j < 4 * p + i then xB (S (j - 4 * k)) (wd (j - 4 * p)) else S j
def wordK (k : Nat) (bx tw key : Nat → BitVec 8) : Nat → (Nat → BitVec 8) × BitVec 8
  | 0 => (fun j => if j < 4 * k then key j else 0#8, 1#8)
  | m + 1 => (partS k (m + k) (wordAt k bx (m + k) (wordK k bx tw key m).1 (wordK k bx tw key m).2) (wordK k bx tw key m).1 4, if (m + k) % k = 0 then tw (wordK k bx tw key m).2.toNat else (wordK k bx tw key m).2)
def wordsF (k : Nat) (bx tw key : Nat → BitVec 8) : Nat → BitVec 8 := (wordK k bx tw key (3 * k + 28)).1
def KeyAt (a : Addr) (n : Nat) (key : Nat → BitVec 8) (w : World) : Prop := (∀ j, j < n → w.cell? (a.add j) = some (.int .u8 ((key j).toNat : Int))) ∧ a.block < w.heap.size
theorem KeyAt.below {a : Addr} {n B : Nat} {key : Nat → BitVec 8} {w X : World} (h : KeyAt a n key w) (hb : a.block < B) (hB : Below B w X) : KeyAt a n key X :=
  ⟨fun j hj => (hB.cell (p := a.add j) (by unfold Addr.add; split <;> exact hb)).trans (h.1 j hj), Nat.lt_of_lt_of_le h.2 hB.size⟩
theorem KeyAt.carry {a : Addr} {n : Nat} {key : Nat → BitVec 8} {w X : World} (h : KeyAt a n key w) (hB : Below w.heap.size w X) : KeyAt a n key X := h.below h.2 hB
/-- some cells of a row, set -/
theorem RowAt.part {b n : Nat} {g : Nat → Value} {w : World} (h : RowAt b n g w) (off m : Nat) (u : Nat → Value) (hm : off + m ≤ n) : RowAt b n (fun j => if off ≤ j ∧ j < off + m then u (j - off) else g j) (w.setCells b off (row m u)) := by
  refine ⟨fun j hj => ?_, fun j hj => ?_, ?_⟩
  · show (w.setCells b off (row m u)).cell? ⟨b, j, none⟩ = some (if off ≤ j ∧ j < off + m then u (j - off) else g j)
    by_cases hin : off ≤ j ∧ j < off + m
    · rw [if_pos hin]
      have h1 := World.cell?_setCells_in b (row m u) off w (fun i hi => by
        rw [row_length] at hi
        rw [h.1 (off + i) (by omega)]; rfl) (j - off) (by rw [row_length]; omega)
      rw [show off + (j - off) = j by omega] at h1
      rw [h1]
      congr 1
      have h2 := row_get m u (j - off) (by omega)
      rw [List.getElem?_eq_getElem (by rw [row_length]; omega)] at h2
      exact Option.some.inj h2
    · rw [if_neg hin, World.cell?_setCells_out b (row m u) off w ⟨b, j, none⟩ (fun _ _ => by rw [row_length]; show j < off ∨ off + m ≤ j; omega)]
      exact h.1 j hj
  · rw [World.frozen?_setCells]; exact h.2.1 j hj
  · rw [size_setCells]; exact h.2.2
/-- cells copied into a row -/
theorem wpList_copy_row {P : Program} {w : World} {ops : Array Oper} {rest : List Oper} {o : Oper} {a : Act} {Q : Exit → Act → World → Prop} (hgd : o.guard = none) (d s : Operand) (dT sT : TypeId)
    (ho : o.op = .call { callee := .builtin .copy, args := #[d, s], argTypes := #[dT, sT] }) (elem : TypeId) (hu : P.underlying dT = some (.slice elem)) (hsz : (P.info? elem).map (·.size) = some 1)
    (b n : Nat) (g : Nat → Value) (hR : RowAt b n g w) (off dLen dCap : Nat) (ad : Addr) (sLen sCap : Nat) (hd : a.eval d = .slice (some ⟨b, off, none⟩) dLen dCap) (hs : a.eval s = .slice (some ad) sLen sCap)
    (m : Nat) (u : Nat → Value) (hn : m = Nat.min sLen dLen) (hsrc : ∀ j, j < m → w.cell? (ad.add j) = some (u j)) (hfit : off + m ≤ n) (h1 : ∀ j, j < m → (u j).oneCell' = true)
    (h : wpList P ops Q rest (a.put o.dst (goInt m)) (w.setCells b off (row m u))) : wpList P ops Q (o :: rest) a w := by
  refine wpList_plain hgd fun K hK => ?_
  have hrun := run_copy_cells (P := P) w dT sT o.type elem b off dLen dCap ad sLen sCap (row m u) hu hsz (by rw [row_length]; exact hn) (fun j v hv => by obtain ⟨hj, rfl⟩ := row_some hv; exact hsrc j hj)
    (fun j hj => by rw [row_length] at hj; rw [hR.1 (off + j) (by omega)]; rfl) (fun j hj => by rw [row_length] at hj; exact hR.2.1 (off + j) (by omega)) (fun v hv => by
      obtain ⟨j, hj, rfl⟩ := List.mem_map.1 hv
      exact h1 j (by simpa using hj))
  rw [row_length] at hrun
  unfold Oper.wp
  simp [execOp, ho, resolve, invoke, builtin, hd, hs, hrun, Result.andThen]
  exact hK _ _ h
theorem zero73 (w : World) : Sem.run Try.prog (zeroValue 92) w = .ok (.agg (row 240 (yv fun _ => 0#8)).toArray) w := by kernel_rfl
theorem info73 : (Try.prog.info? 92).map (·.size) = some 240 := by kernel_rfl
theorem info5 : (Try.prog.info? 5).map (·.size) = some 1 := by kernel_rfl
theorem zero63' (w : World) : Sem.run Try.prog (zeroValue 64) w = .ok (.agg (row 4 (yv fun _ => 0#8)).toArray) w := by kernel_rfl
def WordsAt (B : Nat) (w : World) (S : Nat → BitVec 8) (X : World) : Prop := RowAt B 240 (yv fun _ => 0#8) X ∧ RowAt (B + 1) 240 (yv S) X ∧ Below B w X
theorem WordsAt.ext {B : Nat} {w X Y : World} {S : Nat → BitVec 8} (h : WordsAt B w S X) (hB : w.heap.size = B) (k : Ext X Y) : WordsAt B w S Y :=
  ⟨h.1.carry k, h.2.1.carry k, Below.trans h.2.2 (Below.mono k (by have := Below.size h.2.2; omega))⟩
theorem WordsAt.draw {B : Nat} {w X Y : World} {S : Nat → BitVec 8} (h : WordsAt B w S X) (hB : w.heap.size = B) (k : Ext X.drew Y) : WordsAt B w S Y :=
  WordsAt.ext (X := X.drew) ⟨h.1.drew, h.2.1.drew, h.2.2.drew⟩ hB k
theorem WordsAt.other {B : Nat} {w X : World} {S : Nat → BitVec 8} (h : WordsAt B w S X) (b : Nat) (hb : B + 2 ≤ b) (vs : List Value) (o : Nat) : WordsAt B w S (X.setCells b o vs) :=
  ⟨h.1.cellsOther (by omega) _ _, h.2.1.cellsOther (by omega) _ _, below_setCells _ (by omega) _ _ _ h.2.2⟩
theorem WordsAt.otherCell {B : Nat} {w X : World} {S : Nat → BitVec 8} (h : WordsAt B w S X) (b i : Nat) (hb : B + 2 ≤ b) (v : Value) : WordsAt B w S (X.setCell ⟨b, i, none⟩ v) :=
  ⟨h.1.other _ _ (by show b ≠ B; omega), h.2.1.other _ _ (by show b ≠ B + 1; omega), h.2.2.setCell (by show B ≤ b; omega) _⟩
theorem WordsAt.copy {B : Nat} {w X : World} (key : Nat → BitVec 8) (n k : Nat) (hk : k ≤ 8) (hn : n < k) (h : WordsAt B w (fun j => if j < 4 * n then key j else 0#8) X) : WordsAt B w (fun j => if j < 4 * (n + 1) then key j else 0#8) (X.setCells (B + 1) (n * 4) (row 4 (yv fun j => key (4 * n + j)))) := by
  rw [Nat.mul_comm n 4]
  refine ⟨h.1.cellsOther (by omega) _ _, (h.2.1.part (4 * n) 4 _ (by omega)).congr fun j hj => ?_, below_setCells _ (by omega) _ _ _ h.2.2⟩
  by_cases hin : 4 * n ≤ j ∧ j < 4 * n + 4
  · rw [if_pos hin]
    simp only [yv]
    rw [if_pos (by omega), show 4 * n + (j - 4 * n) = j by omega]
  · rw [if_neg hin]
    simp only [yv, show (j < 4 * (n + 1)) ↔ (j < 4 * n) by omega]
theorem WordsAt.byte {B : Nat} {w X : World} {k p : Nat} {wd S : Nat → BitVec 8} {i : Nat} (h : WordsAt B w (partS k p wd S i) X) : WordsAt B w (partS k p wd S (i + 1)) (X.setCell ⟨B + 1, 4 * p + i, none⟩ (.int .u8 ((xB (S (4 * p + i - 4 * k)) (wd i)).toNat : Int))) := by
  refine ⟨h.1.other _ _ (by simp), (h.2.1.set (4 * p + i) _).congr fun j _ => ?_, h.2.2.setCell (by simp) _⟩
  by_cases e : j = 4 * p + i
  · subst e
    rw [if_pos rfl]
    simp only [yv, partS, if_pos (show 4 * p ≤ 4 * p + i ∧ 4 * p + i < 4 * p + (i + 1) by omega), show 4 * p + i - 4 * p = i by omega]
  · rw [if_neg e]
    simp only [yv, partS, show (4 * p ≤ j ∧ j < 4 * p + (i + 1)) ↔ (4 * p ≤ j ∧ j < 4 * p + i) by omega]
theorem partS_zero (k p : Nat) (wd S : Nat → BitVec 8) : partS k p wd S 0 = S := by
  funext j
  unfold partS
  rw [if_neg (by omega)]
theorem partS_low (k p : Nat) (wd S : Nat → BitVec 8) (i j : Nat) (h : j < 4 * p) : partS k p wd S i j = S j := by
  unfold partS
  rw [if_neg (by omega)]
end Go.Proofs.Ytkoodgfadedeoaa
