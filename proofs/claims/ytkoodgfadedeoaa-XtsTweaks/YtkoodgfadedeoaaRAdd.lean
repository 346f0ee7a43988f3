/-
  The document's own adding of a round key and turning of rows.
-/
import Derived.Test.YtkoodgfadedeoaaMild
import Derived.Test.YtkoodgfadedeoaaTurn
import Derived.Test.YtkoodgfadedeoaaCip
namespace Go.Proofs.Ytkoodgfadedeoaa
open Go.RowKit Go.BigFrame
set_option maxRecDepth 20000 in
set_option maxHeartbeats 1000000 in
theorem radd_any (f k : Nat → BitVec 8) (w : World) :
    Calls Try.prog 35 #[.agg (row 16 (yv f)).toArray, .agg (row 16 (yv k)).toArray] w fun e w' => e = .returned (.agg (row 16 (yv (addF f k))).toArray) ∧ Below w.heap.size w w' := by
  have hz := zero32
  go_enter Try.func35, Try.ntmps35
  go_wp2
  go_loopw [5] (fun i wr => ∃ n : Nat, n ≤ 16 ∧ i = .int .i64 n ∧ AddAt w.heap.size w f k n wr) (fun i _ => 16 - (intOf i).toNat)
  case atStart =>
    refine ⟨0, by omega, rfl, ?_, ?_, ?_, ?_⟩
    · exact (((RowAt.new w 16 (yv f) 23).alloc _).alloc _).congr (fun j _ => by simp [yv])
    · have := (RowAt.new (w.alloc (Obj.cells (row 16 (yv f)).toArray 23)) 16 (yv k) 23).alloc (Obj.cells Y16 23)
      simpa using this
    · have := RowAt.newOf ((w.alloc (Obj.cells (row 16 (yv f)).toArray 23)).alloc (Obj.cells (row 16 (yv k)).toArray 23)) 16 (yv fun _ => 0#8) 23 Y16 (fun j hj => Y16_get j hj _ rfl)
      simpa using this
    · exact (((Below.refl _ _).alloc (Nat.le_refl _) _).alloc (by simp) _).alloc (by simp; omega) _
  case round =>
    obtain ⟨n, hn, rfl, hT⟩ := hrel
    by_cases hlt : n < 16
    · have HT := hideit hT
      obtain ⟨h1, h2, _, _⟩ := hT
      have e1 := h1.1 n hlt
      have e2 := h2.1 n hlt
      have g1 := h1.2.1 n hlt
      simp only [yv, if_neg (Nat.lt_irrefl n)] at e1 e2
      clear h1 h2
      have b1 := (f n).isLt
      have b2 := (k n).isLt
      have o1 : bits .xor .u8 ((f n).toNat : Int) ((k n).toNat : Int) = ((addF f k n).toNat : Int) := xB_fact _ _
      have i0 : (0 : Int) ≤ (n : Int) := by omega
      have i1 : (n : Int) < 16 := by omega
      go_wp2
      go_region
      all_goals (try go_wp2)
      go_roundw
      case rel =>
        first | exact ⟨(n + 1 : Nat), by omega, by go_num, HT.out.step⟩ | ((repeat apply Exists.intro); exact ⟨⟨n + 1, by omega, by go_num, HT.out.step⟩, rfl⟩)
      case measure => simp [intOf]; omega
    · obtain rfl : n = 16 := by omega
      obtain ⟨h1, _, h3, hB⟩ := hT
      have HR := hideit (h1.congr (g' := yv (addF f k)) (fun j hj => by simp [yv, hj]))
      have HR0 := hideit h3
      clear h1 h3
      go_wp2_with (first | (refine wpList_load_mid rfl 23 (.tmp 2) rfl _ 0 rfl (row 16 (yv (addF f k))) _ HR.out.range Try.underlying23 rfl (by rw [row_length]; exact info32) ?_) | (refine wpList_store_mid rfl 23 (.tmp 4) (.tmp 19) rfl _ 0 (row 16 (yv (addF f k))).toArray rfl rfl (by rw [row_size]; exact HR0.out.there) (by rw [row_size]; exact info32) (row_one fun _ _ => rfl) ?_))
      exact bodyPost_ret (ret_row Try.results35 rfl (HR0.out.cells (g' := yv (addF f k))) Try.underlying23 rfl info32) rfl ⟨rfl, below_setCells _ (by omega) _ _ _ hB⟩
def ShiftAt (B : Nat) (w : World) (f : Nat → BitVec 8) (i : Nat) (X : World) : Prop :=
  RowAt B 16 (yv f) X ∧ RowAt (B + 1) 16 (yv fun _ => 0#8) X ∧ RowAt (B + 1 + 1) 16 (yv fun j => if j < i then turnF 1 f j else 0#8) X ∧ Below B w X
theorem ShiftAt.step {B : Nat} {w X : World} {f : Nat → BitVec 8} {i : Nat} (h : ShiftAt B w f i X) : ShiftAt B w f (i + 1) (X.setCell ⟨B + 1 + 1, i, none⟩ (.int .u8 ((turnF 1 f i).toNat : Int))) := by
  obtain ⟨h1, h2, h3, h4⟩ := h
  refine ⟨h1.other _ _ (by simp; omega), h2.other _ _ (by simp), (h3.set i _).congr ?_, h4.setCell (by simp; omega) _⟩
  intro j _
  by_cases e : j = i
  · subst e; simp [yv]
  · have : (j < i + 1) ↔ (j < i) := by omega
    simp [yv, e, this]
theorem shift_at : ∀ c, c < 4 → ∀ r, r < 4 → (4 * c + r + 4 * ((4 * c + r) % 4) * 1) % 16 = 4 * ((c + r) % 4) + r := by decide
set_option maxRecDepth 20000 in
set_option maxHeartbeats 1000000 in
theorem shift_any (f : Nat → BitVec 8) (w : World) :
    Calls Try.prog 36 #[.agg (row 16 (yv f)).toArray] w fun e w' => e = .returned (.agg (row 16 (yv (turnF 1 f))).toArray) ∧ Below w.heap.size w w' := by
  have hz := store_Y16
  have HS : ShiftAt w.heap.size w f (4 * 0) (((w.alloc (.cells (row 16 (yv f)).toArray 23)).alloc (.cells (row 16 (yv fun _ => 0#8)).toArray 23)).alloc (.cells (row 16 (yv fun _ => 0#8)).toArray 23)) := by
    refine ⟨((RowAt.new w 16 (yv f) 23).alloc _).alloc _, ?_, ?_, (((Below.refl _ _).alloc (Nat.le_refl _) _).alloc (by simp) _).alloc (by simp; omega) _⟩
    · have := (RowAt.new (w.alloc (Obj.cells (row 16 (yv f)).toArray 23)) 16 (yv fun _ => 0#8) 23).alloc (.cells (row 16 (yv fun _ => 0#8)).toArray 23)
      simpa using this
    · have := RowAt.new ((w.alloc (Obj.cells (row 16 (yv f)).toArray 23)).alloc (Obj.cells (row 16 (yv fun _ => 0#8)).toArray 23)) 16 (yv fun _ => 0#8) 23
      simpa using this
  replace HS := hideit HS
  go_enter Try.func36, Try.ntmps36
  go_wp2
  go_loopw [4] (fun i wr => ∃ n : Nat, n ≤ 4 ∧ i = .int .i64 n ∧ ShiftAt w.heap.size w f (4 * n) wr) (fun i _ => 4 - (intOf i).toNat)
  case atStart => exact ⟨0, by omega, rfl, HS.out⟩
  case round =>
    obtain ⟨n, hn, rfl, hT⟩ := hrel
    have HT := hideit hT
    clear hT HS
    by_cases hlt : n < 4
    · have i1 : (n : Int) < 4 := by omega
      go_wp2
      go_loopw [5] (fun i wr => ∃ m : Nat, m ≤ 4 ∧ i = .int .i64 m ∧ ShiftAt w.heap.size w f (4 * n + m) wr) (fun i _ => 4 - (intOf i).toNat)
      case atStart => exact ⟨0, by omega, rfl, HT.out⟩
      case round =>
        obtain ⟨m, hm, rfl, hT⟩ := hrel
        have HV := hideit hT
        clear hT HT
        by_cases hlt4 : m < 4
        · have m1 : (m : Int) < 4 := by omega
          obtain ⟨z, hz0⟩ : ∃ z : Nat, z = (n + m) % 4 := ⟨_, rfl⟩
          have hz4 : z < 4 := by omega
          have hzi : (z : Int) < 4 := by omega
          have ht : ((n : Int) + (m : Int)).tmod 4 = (z : Int) := by
            rw [Int.tmod_eq_emod_of_nonneg (by omega), hz0]
            omega
          have e1 : wr.cell? ⟨w.heap.size, 4 * z + m, none⟩ = some (.int .u8 ((turnF 1 f (4 * n + m)).toNat : Int)) := by
            rw [HV.out.1.1 (4 * z + m) (by omega), hz0]
            simp only [yv, turnF]
            rw [shift_at n hlt m hlt4]
          have e2 := HV.out.2.2.1.1 (4 * n + m) (by omega)
          have g2 := HV.out.2.2.1.2.1 (4 * n + m) (by omega)
          replace hz0 := hideit hz0
          go_wp2
          go_roundw
          case rel =>
            first | exact ⟨(m + 1 : Nat), by omega, by go_num, HV.out.step⟩ | ((repeat apply Exists.intro); exact ⟨⟨m + 1, by omega, by go_num, HV.out.step⟩, rfl⟩)
          case measure => simp [intOf]; omega
        · obtain rfl : m = 4 := by omega
          go_wp2
          go_roundw
          case rel =>
            have HI : ShiftAt w.heap.size w f (4 * (n + 1)) wr := HV.out
            first | exact ⟨(n + 1 : Nat), by omega, by go_num, HI⟩ | ((repeat apply Exists.intro); exact ⟨⟨n + 1, by omega, by go_num, HI⟩, rfl⟩)
          case measure => simp [intOf]; omega
    · obtain rfl : n = 4 := by omega
      have HR := hideit (HT.out.2.2.1.congr (g' := yv (turnF 1 f)) (fun j hj => by simp only [yv]; rw [if_pos (by omega)]))
      have HR0 := hideit HT.out.2.1
      have HB := hideit HT.out.2.2.2
      clear HT
      go_wp2_with (first | (refine wpList_load_mid rfl 23 (.tmp 3) rfl _ 0 rfl (row 16 (yv (turnF 1 f))) _ HR.out.range Try.underlying23 rfl (by rw [row_length]; exact info32) ?_) | (refine wpList_store_mid rfl 23 (.tmp 2) (.tmp 28) rfl _ 0 (row 16 (yv (turnF 1 f))).toArray rfl rfl (by rw [row_size]; exact HR0.out.there) (by rw [row_size]; exact info32) (row_one fun _ _ => rfl) ?_))
      exact bodyPost_ret (ret_row Try.results36 rfl (HR0.out.cells (g' := yv (turnF 1 f))) Try.underlying23 rfl info32) rfl ⟨rfl, below_setCells _ (by omega) _ _ _ HB.out⟩
end Go.Proofs.Ytkoodgfadedeoaa
