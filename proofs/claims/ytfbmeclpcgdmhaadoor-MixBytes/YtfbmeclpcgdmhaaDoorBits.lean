/-
  Bytes of words and words of bytes, bit by bit; a whole array loaded where an order is drawn.
-/
import Derived.Test.YtfbmeclpcgdmhaaDoorRPg
import Derived.Test.YtfbmeclpcgdmhaaDoorLad
namespace Go.Proofs.YtfbmeclpcgdmhaaDoor
open Go.RowKit Go.BigFrame
theorem wK_bit (p : Nat → BitVec 8) (t i : Nat) (hi : i < 64) : ∀ n, (wK p n t).getLsbD i = (decide (8 * t + i / 8 < n) && (p (8 * t + i / 8)).getLsbD (i % 8))
  | 0 => by simp [wK]
  | n + 1 => by
    have ih := wK_bit p t i hi n
    simp only [wK]
    by_cases e : t = n / 8
    · rw [if_pos e]
      unfold oW shB
      rw [BitVec.getLsbD_or, ih, BitVec.getLsbD_shiftLeft, BitVec.getLsbD_setWidth]
      by_cases e1 : i / 8 = n % 8
      · have h1 : 8 * t + i / 8 = n := by omega
        have h2 : i - 8 * (n % 8) = i % 8 := by omega
        rw [h1, h2]
        simp [hi, show ¬ i < 8 * (n % 8) by omega, show i % 8 < 64 by omega]
      · by_cases e2 : i / 8 < n % 8
        · simp [show i < 8 * (n % 8) by omega, show 8 * t + i / 8 < n by omega, show 8 * t + i / 8 < n + 1 by omega]
        · have h3 : (p n).getLsbD (i - 8 * (n % 8)) = false := BitVec.getLsbD_of_ge _ _ (by omega)
          simp [h3, show ¬ 8 * t + i / 8 < n by omega, show ¬ 8 * t + i / 8 < n + 1 by omega]
    · rw [if_neg e, ih]
      have h1 : decide (8 * t + i / 8 < n) = decide (8 * t + i / 8 < n + 1) := by
        rw [decide_eq_decide]
        omega
      rw [h1]
theorem dig_bit (s : Nat → BitVec 64) (j i : Nat) (hi : i < 8) : (digF s j).getLsbD i = (s (j / 8)).getLsbD (8 * (j % 8) + i) := by
  unfold digF
  rw [BitVec.getLsbD_setWidth, BitVec.getLsbD_ushiftRight]
  simp [hi]
theorem pg_dig (s : Nat → BitVec 64) (t : Nat) (ht : t < 128) : pgW (digF s) t = s t := by
  apply BitVec.eq_of_getLsbD_eq
  intro i hi
  unfold pgW
  rw [wK_bit _ t i hi 1024, dig_bit _ _ _ (by omega), show (8 * t + i / 8) / 8 = t by omega, show 8 * ((8 * t + i / 8) % 8) + i % 8 = i by omega]
  simp [show 8 * t + i / 8 < 1024 by omega]
theorem dig_pg (b : Nat → BitVec 8) (j : Nat) (hj : j < 1024) : digF (pgW b) j = b j := by
  apply BitVec.eq_of_getLsbD_eq
  intro i hi
  unfold pgW
  rw [dig_bit _ _ _ hi, wK_bit _ _ _ (by omega) 1024, show 8 * (j / 8) + (8 * (j % 8) + i) / 8 = j by omega, show (8 * (j % 8) + i) % 8 = i by omega]
  simp [hj]
theorem run_loadX {P : Program} {o : Oper} {a : Act} {X : World} (t : TypeId) (x : Operand) (b n : Nat) (g : Nat → Value) {d : TypeDesc} (ho : o.op = .load t x) (hx : a.eval x = .pointer (some ⟨b, 0, none⟩)) (h : RowAt b n g X)
    (hu : P.underlying t = some d) (hd : d.isRow = true) (hi : (P.info? t).map (·.size) = some n) : (execOp a.eval o).run P X = .ok (.value (.agg (row n g).toArray)) X := by
  unfold execOp
  simp only [ho, hx, Instr.loadAt, Instr.sureAddr, Sem.run_bind, Sem.run_pure, Result.andThen_ok, run_loadVar_mid (P := P) X b 0 t (row n g) _ h.range hu hd (by rw [row_length]; exact hi)]
theorem wpX_skip {P : Program} {ops : Array Oper} {Q : Exit → Act → World → Prop} {C : World → Prop} {a : Act} {w : World} {i : Nat} {r : List (Bool × Nat)} (o : Oper) (ho : ops[i]? = some o) (hw : Region.wanted o (yielded ops a.tmps) = false) (hC : C w) (h : wpX P ops Q r C (a.put o.dst undef) w) : wpX P ops Q ((true, i) :: r) C a w := ⟨o, ho, .inr ⟨hw, C, fun _ h => h, hC, h⟩⟩
end Go.Proofs.YtfbmeclpcgdmhaaDoor
