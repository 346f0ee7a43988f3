/-
  Cells copied into a row; a whole array loaded in a region that draws its order; bytes that lie behind an address.
-/
import Derived.Test.YtboncdlihgpepaaBut
import Derived.Laws.IdiomCopy
namespace Go.Proofs.Ytboncdlihgpepaa
open Go.RowKit Go.BigFrame
/-- n cells behind an address -/
def LieAt (a : Addr) (n : Nat) (g : Nat → Value) (w : World) : Prop := (∀ j, j < n → w.cell? (a.add j) = some (g j)) ∧ a.block < w.heap.size
theorem LieAt.below {a : Addr} {n B : Nat} {g : Nat → Value} {w X : World} (h : LieAt a n g w) (hb : a.block < B) (hB : Below B w X) : LieAt a n g X :=
  ⟨fun j hj => (hB.cell (p := a.add j) (by unfold Addr.add; split <;> exact hb)).trans (h.1 j hj), Nat.lt_of_lt_of_le h.2 hB.size⟩
theorem LieAt.carry {a : Addr} {n : Nat} {g : Nat → Value} {w X : World} (h : LieAt a n g w) (hB : Ext w X) : LieAt a n g X := h.below h.2 hB
theorem add_block (a : Addr) (j : Nat) : (a.add j).block = a.block := by unfold Addr.add; split <;> rfl
theorem LieAt.but {a : Addr} {n c : Nat} {g : Nat → Value} {w X : World} (h : LieAt a n g w) (hB : But c w X) (hne : a.block ≠ c) : LieAt a n g X :=
  ⟨fun j hj => (hB.cell (a.add j) (by rw [add_block]; exact h.2) (by rw [add_block]; exact hne)).trans (h.1 j hj), Nat.lt_of_lt_of_le h.2 hB.size⟩
/-- some cells of a row, set -/
theorem RowAt.part {b n : Nat} {g : Nat → Value} {w : World} (h : RowAt b n g w) (off m : Nat) (u : Nat → Value) (hm : off + m ≤ n) : RowAt b n (fun j => if off ≤ j ∧ j < off + m then u (j - off) else g j) (w.setCells b off (row m u)) := by
  refine ⟨fun j hj => ?_, fun j hj => ?_, ?_⟩
  · show (w.setCells b off (row m u)).cell? ⟨b, j, none⟩ = some (if off ≤ j ∧ j < off + m then u (j - off) else g j)
    by_cases hin : off ≤ j ∧ j < off + m
    · rw [if_pos hin]
      have h1 := World.cell?_setCells_in b (row m u) off w (fun i hi => by
        rw [row_length] at hi
        rw [h.1 (off + i) (by omega)]; rfl) (j - off) (by rw [row_length]; omega)
      rw [show off + (j - off) = j by omega] at h1
      rw [h1]
      congr 1
      have h2 := row_get m u (j - off) (by omega)
      rw [List.getElem?_eq_getElem (by rw [row_length]; omega)] at h2
      exact Option.some.inj h2
    · rw [if_neg hin, World.cell?_setCells_out b (row m u) off w ⟨b, j, none⟩ (fun _ _ => by rw [row_length]; show j < off ∨ off + m ≤ j; omega)]
      exact h.1 j hj
  · rw [World.frozen?_setCells]; exact h.2.1 j hj
  · rw [size_setCells]; exact h.2.2
/-- cells copied into a row -/
theorem wpList_copy_row {P : Program} {w : World} {ops : Array Oper} {rest : List Oper} {o : Oper} {a : Act} {Q : Exit → Act → World → Prop} (hgd : o.guard = none) (d s : Operand) (dT sT : TypeId)
    (ho : o.op = .call { callee := .builtin .copy, args := #[d, s], argTypes := #[dT, sT] }) (elem : TypeId) (hu : P.underlying dT = some (.slice elem)) (hsz : (P.info? elem).map (·.size) = some 1)
    (b n : Nat) (g : Nat → Value) (hR : RowAt b n g w) (off dLen dCap : Nat) (ad : Addr) (sLen sCap : Nat) (hd : a.eval d = .slice (some ⟨b, off, none⟩) dLen dCap) (hs : a.eval s = .slice (some ad) sLen sCap)
    (m : Nat) (u : Nat → Value) (hn : m = Nat.min sLen dLen) (hsrc : ∀ j, j < m → w.cell? (ad.add j) = some (u j)) (hfit : off + m ≤ n) (h1 : ∀ j, j < m → (u j).oneCell' = true)
    (h : wpList P ops Q rest (a.put o.dst (goInt m)) (w.setCells b off (row m u))) : wpList P ops Q (o :: rest) a w := by
  refine wpList_plain hgd fun K hK => ?_
  have hrun := run_copy_cells (P := P) w dT sT o.type elem b off dLen dCap ad sLen sCap (row m u) hu hsz (by rw [row_length]; exact hn) (fun j v hv => by obtain ⟨hj, rfl⟩ := row_some hv; exact hsrc j hj)
    (fun j hj => by rw [row_length] at hj; rw [hR.1 (off + j) (by omega)]; rfl) (fun j hj => by rw [row_length] at hj; exact hR.2.1 (off + j) (by omega)) (fun v hv => by
      obtain ⟨j, hj, rfl⟩ := List.mem_map.1 hv
      exact h1 j (by simpa using hj))
  rw [row_length] at hrun
  unfold Oper.wp
  simp [execOp, ho, resolve, invoke, builtin, hd, hs, hrun, Result.andThen]
  exact hK _ _ h
/-- a whole array, loaded in a region that draws its order -/
theorem loadQ {P : Program} {W : World} {K : Act → Prop} {op : Oper} {a : Act} (t : TypeId) (x : Operand) (b off n : Nat) (g : Nat → Value) {d : TypeDesc} (ho : op.op = .load t x) (hx : a.eval x = .pointer (some ⟨b, off, none⟩)) (hc : ∀ w', Ext W w' → w'.rangeAt b off (row n g))
    (hu : P.underlying t = some d) (hd : d.isRow = true) (hi : (P.info? t).map (·.size) = some n)
    (h : K (a.put op.dst (.agg (row n g).toArray))) : op.quiet P a (fun w' => ∃ k : Kept (Ext W), w' = k.w) K :=
  ⟨_, fun w hw => by
    obtain ⟨k, rfl⟩ := hw
    unfold Oper.quietAt execOp
    simp only [ho, hx, Instr.loadAt, Instr.sureAddr, Sem.run_bind, Sem.run_pure, Result.andThen_ok, run_loadVar_mid (P := P) k.w b off t (row n g) _ (hc _ k.ok) hu hd (by rw [row_length]; exact hi)]
    exact ⟨rfl, rfl⟩, h⟩
end Go.Proofs.Ytboncdlihgpepaa
