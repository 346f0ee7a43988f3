/-
  A key made ready, as it lies in memory; its round keys and rounds.
-/
import Derived.Test.YtkoodgfadedeoabBlk
namespace Go.Proofs.Ytkoodgfadedeoab
open Go.RowKit
def cv (r : Nat) (K bx ub tw : Nat → BitVec 8) (j : Nat) : Value :=
  if j = 0 then .int .i64 (r : Int) else if j < 241 then yv K (j - 1) else if j < 497 then yv bx (j - 241) else if j < 753 then yv ub (j - 497) else yv tw (j - 753)
def CipherAt (c r : Nat) (K bx ub tw : Nat → BitVec 8) (w : World) : Prop := RowAt c 1009 (cv r K bx ub tw) w
section
variable {c r : Nat} {K bx ub tw : Nat → BitVec 8} {w : World}
theorem CipherAt.rounds (h : CipherAt c r K bx ub tw w) : w.cell? ⟨c, 0, none⟩ = some (.int .i64 (r : Int)) := h.1 0 (by decide)
theorem CipherAt.key (h : CipherAt c r K bx ub tw w) (n : Nat) (hn : n ≤ 14) : w.rangeAt c (1 + n * 16) (row 16 (yv fun j => K (n * 16 + j))) := fun j v hv => by
  obtain ⟨hj, rfl⟩ := row_some hv
  have := h.1 (1 + n * 16 + j) (by omega)
  rw [this]
  have h0 : ¬ (1 + n * 16 + j = 0) := by omega
  have h1 : 1 + n * 16 + j < 241 := by omega
  have h2 : 1 + n * 16 + j - 1 = n * 16 + j := by omega
  simp only [cv, if_neg h0, if_pos h1, yv, h2]
theorem CipherAt.box (h : CipherAt c r K bx ub tw w) : TabAt c 241 bx w := ⟨fun j hj => by
  have := h.1 (241 + j) (by omega)
  rw [this]
  have h0 : ¬ (241 + j = 0) := by omega
  have h1 : ¬ (241 + j < 241) := by omega
  have h2 : 241 + j < 497 := by omega
  have h3 : 241 + j - 241 = j := by omega
  simp only [cv, if_neg h0, if_neg h1, if_pos h2, yv, h3], h.2.2⟩
theorem CipherAt.unbox (h : CipherAt c r K bx ub tw w) : TabAt c 497 ub w := ⟨fun j hj => by
  have := h.1 (497 + j) (by omega)
  rw [this]
  have h0 : ¬ (497 + j = 0) := by omega
  have h1 : ¬ (497 + j < 241) := by omega
  have h2 : ¬ (497 + j < 497) := by omega
  have h4 : 497 + j < 753 := by omega
  have h3 : 497 + j - 497 = j := by omega
  simp only [cv, if_neg h0, if_neg h1, if_neg h2, if_pos h4, yv, h3], h.2.2⟩
theorem CipherAt.twice (h : CipherAt c r K bx ub tw w) : TabAt c 753 tw w := ⟨fun j hj => by
  have := h.1 (753 + j) (by omega)
  rw [this]
  have h0 : ¬ (753 + j = 0) := by omega
  have h1 : ¬ (753 + j < 241) := by omega
  have h2 : ¬ (753 + j < 497) := by omega
  have h4 : ¬ (753 + j < 753) := by omega
  have h3 : 753 + j - 753 = j := by omega
  simp only [cv, if_neg h0, if_neg h1, if_neg h2, if_neg h4, yv, h3], h.2.2⟩
theorem CipherAt.carry {w' : World} (h : CipherAt c r K bx ub tw w) (hB : Below w.heap.size w w') : CipherAt c r K bx ub tw w' := RowAt.carry h hB
end
def keyF (r : Nat) (K : Nat → BitVec 8) (n : Int) (j : Nat) : BitVec 8 := if 0 ≤ n ∧ n ≤ (r : Int) then K (n.toNat * 16 + j) else 0#8
theorem keyF_out (r : Nat) (K : Nat → BitVec 8) (n : Int) (h : ¬ (0 ≤ n ∧ n ≤ (r : Int))) : row 16 (yv (keyF r K n)) = row 16 (yv fun _ => 0#8) := row_ext fun j _ => by simp only [yv, keyF, if_neg h]
theorem keyF_in (r : Nat) (K : Nat → BitVec 8) (n : Nat) (h : n ≤ r) : row 16 (yv (keyF r K (n : Int))) = row 16 (yv fun j => K (n * 16 + j)) := row_ext fun j _ => by
  have : (0 : Int) ≤ (n : Int) ∧ (n : Int) ≤ (r : Int) := by omega
  simp only [yv, keyF, if_pos this, Int.toNat_natCast]
theorem Y16_def : Y16 = (row 16 (yv fun _ => 0#8)).toArray := rfl
theorem store_Y16 (w : World) : Sem.run Try.prog (zeroValue 50) w = .ok (.agg (row 16 (yv fun _ => 0#8)).toArray) w := zero32 w
end Go.Proofs.Ytkoodgfadedeoab
