/-
  A key made ready, as it lies in memory; its round keys and rounds. The cipher's turning of rows.
-/
import Derived.Test.YtkoodgfadedeoaaQ6
namespace Go.Proofs.Ytkoodgfadedeoaa
open Go.RowKit
def cv (r : Nat) (K bx ub tw : Nat → BitVec 8) (j : Nat) : Value :=
  if j = 0 then .int .i64 (r : Int) else if j < 241 then yv K (j - 1) else if j < 497 then yv bx (j - 241) else if j < 753 then yv ub (j - 497) else yv tw (j - 753)
def CipherAt (c r : Nat) (K bx ub tw : Nat → BitVec 8) (w : World) : Prop := RowAt c 1009 (cv r K bx ub tw) w
section
variable {c r : Nat} {K bx ub tw : Nat → BitVec 8} {w : World}
theorem CipherAt.rounds (h : CipherAt c r K bx ub tw w) : w.cell? ⟨c, 0, none⟩ = some (.int .i64 (r : Int)) := h.1 0 (by decide)
theorem CipherAt.key (h : CipherAt c r K bx ub tw w) (n : Nat) (hn : n ≤ 14) : w.rangeAt c (1 + n * 16) (row 16 (yv fun j => K (n * 16 + j))) := fun j v hv => by
  obtain ⟨hj, rfl⟩ := row_some hv
  have := h.1 (1 + n * 16 + j) (by omega)
  rw [this]
  have h0 : ¬ (1 + n * 16 + j = 0) := by omega
  have h1 : 1 + n * 16 + j < 241 := by omega
  have h2 : 1 + n * 16 + j - 1 = n * 16 + j := by omega
  simp only [cv, if_neg h0, if_pos h1, yv, h2]
theorem CipherAt.box (h : CipherAt c r K bx ub tw w) : TabAt c 241 bx w := ⟨fun j hj => by
  have := h.1 (241 + j) (by omega)
  rw [this]
  have h0 : ¬ (241 + j = 0) := by omega
  have h1 : ¬ (241 + j < 241) := by omega
  have h2 : 241 + j < 497 := by omega
  have h3 : 241 + j - 241 = j := by omega
  simp only [cv, if_neg h0, if_neg h1, if_pos h2, yv, h3], h.2.2⟩
theorem CipherAt.unbox (h : CipherAt c r K bx ub tw w) : TabAt c 497 ub w := ⟨fun j hj => by
  have := h.1 (497 + j) (by omega)
  rw [this]
  have h0 : ¬ (497 + j = 0) := by omega
  have h1 : ¬ (497 + j < 241) := by omega
  have h2 : ¬ (497 + j < 497) := by omega
  have h4 : 497 + j < 753 := by omega
  have h3 : 497 + j - 497 = j := by omega
  simp only [cv, if_neg h0, if_neg h1, if_neg h2, if_pos h4, yv, h3], h.2.2⟩
theorem CipherAt.twice (h : CipherAt c r K bx ub tw w) : TabAt c 753 tw w := ⟨fun j hj => by
  have := h.1 (753 + j) (by omega)
  rw [this]
  have h0 : ¬ (753 + j = 0) := by omega
  have h1 : ¬ (753 + j < 241) := by omega
  have h2 : ¬ (753 + j < 497) := by omega
  have h4 : ¬ (753 + j < 753) := by omega
  have h3 : 753 + j - 753 = j := by omega
  simp only [cv, if_neg h0, if_neg h1, if_neg h2, if_neg h4, yv, h3], h.2.2⟩
theorem CipherAt.carry {w' : World} (h : CipherAt c r K bx ub tw w) (hB : Below w.heap.size w w') : CipherAt c r K bx ub tw w' := RowAt.carry h hB
end
theorem nil_rounds (w : World) : Calls Try.prog 17 #[.pointer none] w fun e w' => e = .returned (.int .i64 0) ∧ w' = w := by
  go_enter Try.func17, Try.ntmps17
  go_wp2
  go_ret
  exact ⟨rfl, rfl⟩
theorem rounds_any (c r : Nat) (K bx ub tw : Nat → BitVec 8) (w : World) (h : CipherAt c r K bx ub tw w) : Calls Try.prog 17 #[.pointer (some ⟨c, 0, none⟩)] w fun e w' => e = .returned (.int .i64 (r : Int)) ∧ w' = w := by
  have e0 := h.rounds
  clear h
  go_enter Try.func17, Try.ntmps17
  go_wp2
  go_ret
  exact ⟨rfl, rfl⟩
def keyF (r : Nat) (K : Nat → BitVec 8) (n : Int) (j : Nat) : BitVec 8 := if 0 ≤ n ∧ n ≤ (r : Int) then K (n.toNat * 16 + j) else 0#8
theorem keyF_out (r : Nat) (K : Nat → BitVec 8) (n : Int) (h : ¬ (0 ≤ n ∧ n ≤ (r : Int))) : row 16 (yv (keyF r K n)) = row 16 (yv fun _ => 0#8) := row_ext fun j _ => by simp only [yv, keyF, if_neg h]
theorem keyF_in (r : Nat) (K : Nat → BitVec 8) (n : Nat) (h : n ≤ r) : row 16 (yv (keyF r K (n : Int))) = row 16 (yv fun j => K (n * 16 + j)) := row_ext fun j _ => by
  have : (0 : Int) ≤ (n : Int) ∧ (n : Int) ≤ (r : Int) := by omega
  simp only [yv, keyF, if_pos this, Int.toNat_natCast]
theorem Y16_def : Y16 = (row 16 (yv fun _ => 0#8)).toArray := rfl
theorem store_Y16 (w : World) : Sem.run Try.prog (zeroValue 23) w = .ok (.agg (row 16 (yv fun _ => 0#8)).toArray) w := zero32 w
set_option maxRecDepth 20000 in
theorem nil_key (n : Int) (w : World) : Calls Try.prog 16 #[.pointer none, .int .i64 n] w fun e w' => e = .returned (.agg (row 16 (yv fun _ => 0#8)).toArray) ∧ Below w.heap.size w w' := by
  have hz := store_Y16
  have HR0 := hideit (RowAt.new w 16 (yv fun _ => 0#8) 23)
  go_enter Try.func16, Try.ntmps16
  go_wp2_with (first | (refine wpList_store_mid rfl 23 (.tmp 4) (.tmp 19) rfl _ 0 (row 16 (yv fun _ => 0#8)).toArray rfl rfl (by rw [row_size]; exact HR0.out.there) (by rw [row_size]; exact info32) (row_one fun _ _ => rfl) ?_))
  exact bodyPost_ret (ret_row Try.results16 rfl (HR0.out.cells (g' := yv fun _ => 0#8)) Try.underlying23 rfl info32) rfl ⟨rfl, below_setCells _ (Nat.le_refl _) _ _ _ ((Below.refl _ _).alloc (Nat.le_refl _) _)⟩
set_option maxRecDepth 20000 in
set_option maxHeartbeats 1000000 in
theorem key_any (c r : Nat) (K bx ub tw : Nat → BitVec 8) (n : Int) (hr : r ≤ 14) (w : World) (h : CipherAt c r K bx ub tw w) :
    Calls Try.prog 16 #[.pointer (some ⟨c, 0, none⟩), .int .i64 n] w fun e w' => e = .returned (.agg (row 16 (yv (keyF r K n))).toArray) ∧ Below w.heap.size w w' := by
  have hz := store_Y16
  have HR0 := hideit (RowAt.new w 16 (yv fun _ => 0#8) 23)
  have HC := hideit (RowAt.alloc (b := c) h (.cells (row 16 (yv fun _ => 0#8)).toArray 23))
  have e0 := h.rounds
  have hcs := h.2.2
  have hne : ¬ (c = w.heap.size) := by omega
  clear h
  by_cases hn : 0 ≤ n ∧ n ≤ (r : Int)
  · obtain ⟨m, rfl⟩ : ∃ m : Nat, n = (m : Int) := ⟨n.toNat, by omega⟩
    have hm : m ≤ r := by omega
    rw [keyF_in r K m hm]
    have m0 : ¬ ((m : Int) < 0) := by omega
    have m1 : ¬ ((r : Int) < (m : Int)) := by omega
    have m2 : (m : Int) < 15 := by omega
    go_enter Try.func16, Try.ntmps16
    go_wp2_with (first | (refine wpList_load_mid rfl 23 (.tmp 24) rfl _ (1 + m * 16) rfl (row 16 (yv fun j => K (m * 16 + j))) _ (CipherAt.key HC.out m (by omega)) Try.underlying23 rfl (by rw [row_length]; exact info32) ?_) | (refine wpList_store_mid rfl 23 (.tmp 4) (.tmp 25) rfl _ 0 (row 16 (yv fun j => K (m * 16 + j))).toArray rfl rfl (by rw [row_size]; exact HR0.out.there) (by rw [row_size]; exact info32) (row_one fun _ _ => rfl) ?_))
    exact bodyPost_ret (ret_row Try.results16 rfl (HR0.out.cells (g' := yv fun j => K (m * 16 + j))) Try.underlying23 rfl info32) rfl ⟨rfl, below_setCells _ (Nat.le_refl _) _ _ _ ((Below.refl _ _).alloc (Nat.le_refl _) _)⟩
  · rw [keyF_out r K n hn]
    by_cases hn0 : n < 0
    · go_enter Try.func16, Try.ntmps16
      go_wp2_with (first | (refine wpList_store_mid rfl 23 (.tmp 4) (.tmp 19) rfl _ 0 (row 16 (yv fun _ => 0#8)).toArray rfl rfl (by rw [row_size]; exact HR0.out.there) (by rw [row_size]; exact info32) (row_one fun _ _ => rfl) ?_))
      exact bodyPost_ret (ret_row Try.results16 rfl (HR0.out.cells (g' := yv fun _ => 0#8)) Try.underlying23 rfl info32) rfl ⟨rfl, below_setCells _ (Nat.le_refl _) _ _ _ ((Below.refl _ _).alloc (Nat.le_refl _) _)⟩
    · have hn1 : (r : Int) < n := by omega
      go_enter Try.func16, Try.ntmps16
      go_wp2_with (first | (refine wpList_store_mid rfl 23 (.tmp 4) (.tmp 19) rfl _ 0 (row 16 (yv fun _ => 0#8)).toArray rfl rfl (by rw [row_size]; exact HR0.out.there) (by rw [row_size]; exact info32) (row_one fun _ _ => rfl) ?_))
      exact bodyPost_ret (ret_row Try.results16 rfl (HR0.out.cells (g' := yv fun _ => 0#8)) Try.underlying23 rfl info32) rfl ⟨rfl, below_setCells _ (Nat.le_refl _) _ _ _ ((Below.refl _ _).alloc (Nat.le_refl _) _)⟩
end Go.Proofs.Ytkoodgfadedeoaa
namespace Go.Proofs.Ytkoodgfadedeoaa
open Go.RowKit
/-- rows turned -/
def turnF (m : Nat) (f : Nat → BitVec 8) (i : Nat) : BitVec 8 := f ((i + 4 * (i % 4) * m) % 16)
def TurnAt (B : Nat) (w : World) (m : Nat) (f : Nat → BitVec 8) (i : Nat) (X : World) : Prop :=
  RowAt B 16 (yv f) X ∧ RowAt (B + 1) 16 (yv fun _ => 0#8) X ∧ RowAt (B + 1 + 1) 16 (yv fun j => if j < i then turnF m f j else 0#8) X ∧ Below B w X
theorem TurnAt.step {B : Nat} {w X : World} {m : Nat} {f : Nat → BitVec 8} {i : Nat} (h : TurnAt B w m f i X) : TurnAt B w m f (i + 1) (X.setCell ⟨B + 1 + 1, i, none⟩ (.int .u8 ((turnF m f i).toNat : Int))) := by
  obtain ⟨h1, h2, h3, h4⟩ := h
  refine ⟨h1.other _ _ (by simp; omega), h2.other _ _ (by simp), (h3.set i _).congr ?_, h4.setCell (by simp; omega) _⟩
  intro j _
  by_cases e : j = i
  · subst e; simp [yv]
  · have : (j < i + 1) ↔ (j < i) := by omega
    simp [yv, e, this]
set_option maxRecDepth 20000 in
set_option maxHeartbeats 1000000 in
theorem turnRows_any (f : Nat → BitVec 8) (m : Nat) (hm : m = 1 ∨ m = 3) (w : World) :
    Calls Try.prog 33 #[.agg (row 16 (yv f)).toArray, .int .i64 (m : Int)] w fun e w' => e = .returned (.agg (row 16 (yv (turnF m f))).toArray) ∧ Below w.heap.size w w' := by
  have hz := zero32
  go_enter Try.func33, Try.ntmps33
  go_wp2
  go_loopw [8] (fun i wr => ∃ n : Nat, n ≤ 16 ∧ i = .int .i64 n ∧ TurnAt w.heap.size w m f n wr) (fun i _ => 16 - (intOf i).toNat)
  case atStart =>
    refine ⟨0, by omega, rfl, ?_, ?_, ?_, ?_⟩
    · exact ((RowAt.new w 16 (yv f) 23).alloc _).alloc _
    · have := (RowAt.newOf (w.alloc (Obj.cells (row 16 (yv f)).toArray 23)) 16 (yv fun _ => 0#8) 23 Y16 (fun j hj => Y16_get j hj _ rfl)).alloc (Obj.cells Y16 23)
      simpa using this
    · have := RowAt.newOf ((w.alloc (Obj.cells (row 16 (yv f)).toArray 23)).alloc (Obj.cells Y16 23)) 16 (yv fun j => if j < 0 then turnF m f j else 0#8) 23 Y16 (fun j hj => Y16_get j hj _ (if_neg (by omega)))
      simpa using this
    · exact (((Below.refl _ _).alloc (Nat.le_refl _) _).alloc (by simp) _).alloc (by simp; omega) _
  case round =>
    obtain ⟨n, hn, rfl, hT⟩ := hrel
    by_cases hlt : n < 16
    · have HT := hideit hT
      obtain ⟨h1, _, h3, _⟩ := hT
      have e1 := h1.1 ((n + 4 * (n % 4) * m) % 16) (Nat.mod_lt _ (by decide))
      have e3 := h3.1 n hlt
      have g3 := h3.2.1 n hlt
      have e1' : wr.cell? ⟨w.heap.size, (n + 4 * (n % 4) * m) % 16, none⟩ = some (.int .u8 ((turnF m f n).toNat : Int)) := e1
      clear h1 h3 e1
      have i0 : (0 : Int) ≤ (n : Int) := by omega
      have i1 : (n : Int) < 16 := by omega
      have c4 : ((n : Int) % 4).toNat = n % 4 := by omega
      rcases hm with rfl | rfl
      · have e1 : wr.cell? ⟨w.heap.size, (n + 4 * (n % 4)) % 16, none⟩ = some (.int .u8 ((turnF 1 f n).toNat : Int)) := by simpa using e1'
        clear e1'
        go_wp2
        go_roundw
        case rel =>
          first | exact ⟨(n + 1 : Nat), by omega, by go_num, HT.out.step⟩ | ((repeat apply Exists.intro); exact ⟨⟨n + 1, by omega, by go_num, HT.out.step⟩, rfl⟩)
        case measure => simp [intOf]; omega
      · go_wp2
        go_roundw
        case rel =>
          first | exact ⟨(n + 1 : Nat), by omega, by go_num, HT.out.step⟩ | ((repeat apply Exists.intro); exact ⟨⟨n + 1, by omega, by go_num, HT.out.step⟩, rfl⟩)
        case measure => simp [intOf]; omega
    · obtain rfl : n = 16 := by omega
      obtain ⟨_, h2, h3, hB⟩ := hT
      have HR := hideit (h3.congr (g' := yv (turnF m f)) (fun j hj => by simp [yv, hj]))
      have HR0 := hideit h2
      clear h2 h3
      go_wp2_with (first | (refine wpList_load_mid rfl 23 (.tmp 5) rfl _ 0 rfl (row 16 (yv (turnF m f))) _ HR.out.range Try.underlying23 rfl (by rw [row_length]; exact info32) ?_) | (refine wpList_store_mid rfl 23 (.tmp 4) (.tmp 25) rfl _ 0 (row 16 (yv (turnF m f))).toArray rfl rfl (by rw [row_size]; exact HR0.out.there) (by rw [row_size]; exact info32) (row_one fun _ _ => rfl) ?_))
      refine bodyPost_ret (v := .agg (row 16 (yv (turnF m f))).toArray) ?_ rfl ⟨rfl, below_setCells _ (by omega) _ _ _ hB⟩
      have hl := run_loadVar_mid (P := Try.prog) (wr.setCells (w.heap.size + 1) 0 (row 16 (yv (turnF m f)))) (w.heap.size + 1) 0 23 (row 16 (yv (turnF m f))) _ (HR0.out.cells (g' := yv (turnF m f))).range Try.underlying23 rfl (by rw [row_length]; exact info32)
      simp [results, Try.results33, Act.put, asAddr, hl]
end Go.Proofs.Ytkoodgfadedeoaa
