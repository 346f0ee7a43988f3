/-
  A word of the key through the box.
-/
import Derived.Test.YtkoodgfadedeoabBlk
namespace Go.Proofs.Ytkoodgfadedeoab
open Go.RowKit
def Y4 : Array Value := (row 4 (yv fun _ => 0#8)).toArray
theorem zero63 (w : World) : Sem.run Try.prog (zeroValue 66) w = .ok (.agg Y4) w := by kernel_rfl
theorem info63 : (Try.prog.info? 66).map (·.size) = some 4 := by kernel_rfl
theorem Y4_get (j : Nat) (hj : j < 4) (f : Nat → BitVec 8) (hf : f j = 0#8) : Y4[j]? = some (yv f j) := by
  unfold Y4
  rw [List.getElem?_toArray, row_get 4 _ j hj]
  simp [yv, hf]
def BoxwAt (B : Nat) (w : World) (t f : Nat → BitVec 8) (i : Nat) (X : World) : Prop :=
  RowAt B 4 (yv fun j => if j < i then replF t f j else f j) X ∧ RowAt (B + 1) 4 (yv fun _ => 0#8) X ∧ Below B w X
theorem BoxwAt.step {B : Nat} {w X : World} {t f : Nat → BitVec 8} {i : Nat} (h : BoxwAt B w t f i X) : BoxwAt B w t f (i + 1) (X.setCell ⟨B, i, none⟩ (.int .u8 ((replF t f i).toNat : Int))).drew := by
  obtain ⟨h1, h3, h4⟩ := h
  refine ⟨((h1.set i _).congr ?_).drew, (h3.other _ _ (by simp)).drew, (h4.setCell (by simp) _).drew⟩
  intro j _
  by_cases e : j = i
  · subst e; simp [yv]
  · have : (j < i + 1) ↔ (j < i) := by omega
    simp [yv, e, this]
set_option maxRecDepth 20000 in
set_option maxHeartbeats 1000000 in
theorem boxWord_any (f t : Nat → BitVec 8) (c : Nat) (w : World) (ht : TabAt c 241 t w) :
    Calls Try.prog 35 #[.pointer (some ⟨c, 0, none⟩), .agg (row 4 (yv f)).toArray] w fun e w' => e = .returned (.agg (row 4 (yv (replF t f))).toArray) ∧ Below w.heap.size w w' := by
  have hz := zero63
  have HT0 := hideit ht
  clear ht
  go_enter Try.func35, Try.ntmps35
  go_wp2
  go_loopw [6] (fun i wr => ∃ n : Nat, n ≤ 4 ∧ i = .int .i64 n ∧ BoxwAt w.heap.size w t f n wr) (fun i _ => 4 - (intOf i).toNat)
  case atStart =>
    refine ⟨0, by omega, rfl, ?_, ?_, ?_⟩
    · exact ((RowAt.new w 4 (yv f) 66).alloc _).congr (fun j _ => by simp [yv])
    · have := RowAt.newOf (w.alloc (Obj.cells (row 4 (yv f)).toArray 66)) 4 (yv fun _ => 0#8) 66 Y4 (fun j hj => Y4_get j hj _ rfl)
      simpa using this
    · exact ((Below.refl _ _).alloc (Nat.le_refl _) _).alloc (by simp) _
  case round =>
    obtain ⟨n, hn, rfl, hT⟩ := hrel
    by_cases hlt : n < 4
    · have HT := hideit hT
      obtain ⟨h1, _, hB⟩ := hT
      have e1 := h1.1 n hlt
      have g1 := h1.2.1 n hlt
      have b1 := (f n).isLt
      have e2 := (HT0.out.below HT0.out.2 hB).1 (f n).toNat b1
      simp only [yv, if_neg (Nat.lt_irrefl n)] at e1
      have e2' : wr.cell? ⟨c, 241 + (f n).toNat, none⟩ = some (.int .u8 ((replF t f n).toNat : Int)) := e2
      clear h1 hB e2
      have i0 : (0 : Int) ≤ (n : Int) := by omega
      have i1 : (n : Int) < 4 := by omega
      have i2 : ((f n).toNat : Int) < 256 := by omega
      go_wp2
      go_region
      all_goals (try go_wp2)
      go_roundw
      case rel =>
        first | exact ⟨(n + 1 : Nat), by omega, by go_num, HT.out.step⟩ | ((repeat apply Exists.intro); exact ⟨⟨n + 1, by omega, by go_num, HT.out.step⟩, rfl⟩)
      case measure => simp [intOf]; omega
    · obtain rfl : n = 4 := by omega
      obtain ⟨h1, h3, hB⟩ := hT
      have HR := hideit (h1.congr (g' := yv (replF t f)) (fun j hj => by simp [yv, hj]))
      have HR0 := hideit h3
      clear h1 h3
      go_wp2_with (first | (refine wpList_load_mid rfl 66 (.tmp 3) rfl _ 0 rfl (row 4 (yv (replF t f))) _ HR.out.range Try.underlying66 rfl (by rw [row_length]; exact info63) ?_) | (refine wpList_store_mid rfl 66 (.tmp 4) (.tmp 20) rfl _ 0 (row 4 (yv (replF t f))).toArray rfl rfl (by rw [row_size]; exact HR0.out.there) (by rw [row_size]; exact info63) (row_one fun _ _ => rfl) ?_))
      refine bodyPost_ret (v := .agg (row 4 (yv (replF t f))).toArray) ?_ rfl ⟨rfl, below_setCells _ (by omega) _ _ _ hB⟩
      have hl := run_loadVar_mid (P := Try.prog) (wr.setCells (w.heap.size + 1) 0 (row 4 (yv (replF t f)))) (w.heap.size + 1) 0 66 (row 4 (yv (replF t f))) _ (HR0.out.cells (g' := yv (replF t f))).range Try.underlying66 rfl (by rw [row_length]; exact info63)
      simp [results, Try.results35, Act.put, asAddr, hl]
end Go.Proofs.Ytkoodgfadedeoab
