/-
  The cipher's turning of rows.
-/
import Derived.Test.YtkoodgfadedeoabBlk
namespace Go.Proofs.Ytkoodgfadedeoab
open Go.RowKit
/-- rows turned -/
def turnF (m : Nat) (f : Nat → BitVec 8) (i : Nat) : BitVec 8 := f ((i + 4 * (i % 4) * m) % 16)
def TurnAt (B : Nat) (w : World) (m : Nat) (f : Nat → BitVec 8) (i : Nat) (X : World) : Prop :=
  RowAt B 16 (yv f) X ∧ RowAt (B + 1) 16 (yv fun _ => 0#8) X ∧ RowAt (B + 1 + 1) 16 (yv fun j => if j < i then turnF m f j else 0#8) X ∧ Below B w X
theorem TurnAt.step {B : Nat} {w X : World} {m : Nat} {f : Nat → BitVec 8} {i : Nat} (h : TurnAt B w m f i X) : TurnAt B w m f (i + 1) (X.setCell ⟨B + 1 + 1, i, none⟩ (.int .u8 ((turnF m f i).toNat : Int))) := by
  obtain ⟨h1, h2, h3, h4⟩ := h
  refine ⟨h1.other _ _ (by simp; omega), h2.other _ _ (by simp), (h3.set i _).congr ?_, h4.setCell (by simp; omega) _⟩
  intro j _
  by_cases e : j = i
  · subst e; simp [yv]
  · have : (j < i + 1) ↔ (j < i) := by omega
    simp [yv, e, this]
set_option maxRecDepth 20000 in
set_option maxHeartbeats 1000000 in
theorem turnRows_any (f : Nat → BitVec 8) (m : Nat) (hm : m = 1 ∨ m = 3) (w : World) :
    Calls Try.prog 24 #[.agg (row 16 (yv f)).toArray, .int .i64 (m : Int)] w fun e w' => e = .returned (.agg (row 16 (yv (turnF m f))).toArray) ∧ Below w.heap.size w w' := by
  have hz := zero32
  go_enter Try.func24, Try.ntmps24
  go_wp2
  go_loopw [8] (fun i wr => ∃ n : Nat, n ≤ 16 ∧ i = .int .i64 n ∧ TurnAt w.heap.size w m f n wr) (fun i _ => 16 - (intOf i).toNat)
  case atStart =>
    refine ⟨0, by omega, rfl, ?_, ?_, ?_, ?_⟩
    · exact ((RowAt.new w 16 (yv f) 50).alloc _).alloc _
    · have := (RowAt.newOf (w.alloc (Obj.cells (row 16 (yv f)).toArray 50)) 16 (yv fun _ => 0#8) 50 Y16 (fun j hj => Y16_get j hj _ rfl)).alloc (Obj.cells Y16 50)
      simpa using this
    · have := RowAt.newOf ((w.alloc (Obj.cells (row 16 (yv f)).toArray 50)).alloc (Obj.cells Y16 50)) 16 (yv fun j => if j < 0 then turnF m f j else 0#8) 50 Y16 (fun j hj => Y16_get j hj _ (if_neg (by omega)))
      simpa using this
    · exact (((Below.refl _ _).alloc (Nat.le_refl _) _).alloc (by simp) _).alloc (by simp; omega) _
  case round =>
    obtain ⟨n, hn, rfl, hT⟩ := hrel
    by_cases hlt : n < 16
    · have HT := hideit hT
      obtain ⟨h1, _, h3, _⟩ := hT
      have e1 := h1.1 ((n + 4 * (n % 4) * m) % 16) (Nat.mod_lt _ (by decide))
      have e3 := h3.1 n hlt
      have g3 := h3.2.1 n hlt
      have e1' : wr.cell? ⟨w.heap.size, (n + 4 * (n % 4) * m) % 16, none⟩ = some (.int .u8 ((turnF m f n).toNat : Int)) := e1
      clear h1 h3 e1
      have i0 : (0 : Int) ≤ (n : Int) := by omega
      have i1 : (n : Int) < 16 := by omega
      have c4 : ((n : Int) % 4).toNat = n % 4 := by omega
      rcases hm with rfl | rfl
      · have e1 : wr.cell? ⟨w.heap.size, (n + 4 * (n % 4)) % 16, none⟩ = some (.int .u8 ((turnF 1 f n).toNat : Int)) := by simpa using e1'
        clear e1'
        go_wp2
        go_roundw
        case rel =>
          first | exact ⟨(n + 1 : Nat), by omega, by go_num, HT.out.step⟩ | ((repeat apply Exists.intro); exact ⟨⟨n + 1, by omega, by go_num, HT.out.step⟩, rfl⟩)
        case measure => simp [intOf]; omega
      · go_wp2
        go_roundw
        case rel =>
          first | exact ⟨(n + 1 : Nat), by omega, by go_num, HT.out.step⟩ | ((repeat apply Exists.intro); exact ⟨⟨n + 1, by omega, by go_num, HT.out.step⟩, rfl⟩)
        case measure => simp [intOf]; omega
    · obtain rfl : n = 16 := by omega
      obtain ⟨_, h2, h3, hB⟩ := hT
      have HR := hideit (h3.congr (g' := yv (turnF m f)) (fun j hj => by simp [yv, hj]))
      have HR0 := hideit h2
      clear h2 h3
      go_wp2_with (first | (refine wpList_load_mid rfl 50 (.tmp 5) rfl _ 0 rfl (row 16 (yv (turnF m f))) _ HR.out.range Try.underlying50 rfl (by rw [row_length]; exact info32) ?_) | (refine wpList_store_mid rfl 50 (.tmp 4) (.tmp 25) rfl _ 0 (row 16 (yv (turnF m f))).toArray rfl rfl (by rw [row_size]; exact HR0.out.there) (by rw [row_size]; exact info32) (row_one fun _ _ => rfl) ?_))
      refine bodyPost_ret (v := .agg (row 16 (yv (turnF m f))).toArray) ?_ rfl ⟨rfl, below_setCells _ (by omega) _ _ _ hB⟩
      have hl := run_loadVar_mid (P := Try.prog) (wr.setCells (w.heap.size + 1) 0 (row 16 (yv (turnF m f)))) (w.heap.size + 1) 0 50 (row 16 (yv (turnF m f))) _ (HR0.out.cells (g' := yv (turnF m f))).range Try.underlying50 rfl (by rw [row_length]; exact info32)
      simp [results, Try.results24, Act.put, asAddr, hl]
end Go.Proofs.Ytkoodgfadedeoab
