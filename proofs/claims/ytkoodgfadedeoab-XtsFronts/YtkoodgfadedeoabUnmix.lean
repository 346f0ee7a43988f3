/-
  The cipher's undoing of the mixing of columns.
-/
import Derived.Test.YtkoodgfadedeoabMix
namespace Go.Proofs.Ytkoodgfadedeoab
open Go.RowKit
def preF (t f : Nat → BitVec 8) (j : Nat) : BitVec 8 := xB (f j) (t (t (xB (f (j / 4 * 4 + j % 2)) (f (j / 4 * 4 + (j % 2 + 2)))).toNat).toNat)
def unmixF (t f : Nat → BitVec 8) : Nat → BitVec 8 := mixF t (preF t f)
def PreAt (B : Nat) (w : World) (t f : Nat → BitVec 8) (i : Nat) (X : World) : Prop :=
  RowAt B 16 (yv fun j => if j < i then preF t f j else f j) X ∧ RowAt (B + 1) 16 (yv fun _ => 0#8) X ∧ Below B w X
def putB (B : Nat) (i : Nat) (v : BitVec 8) (X : World) : World := X.setCell ⟨B, i, none⟩ (.int .u8 (v.toNat : Int))
theorem PreAt.step {B : Nat} {w X : World} {t f : Nat → BitVec 8} {i : Nat} (h : PreAt B w t f i X) :
    PreAt B w t f (i + 4) (putB B (i + 3) (preF t f (i + 3)) (putB B (i + 2) (preF t f (i + 2)) (putB B (i + 1) (preF t f (i + 1)) (putB B i (preF t f i) X.drew.drew)))) := by
  obtain ⟨h1, h2, h3⟩ := h
  refine ⟨((((h1.drew.drew).set i _).set (i + 1) _).set (i + 2) _).set (i + 3) _ |>.congr ?_, ?_, ?_⟩
  · intro j _
    by_cases e3 : j = i + 3
    · subst e3; simp [yv]
    · by_cases e2 : j = i + 2
      · subst e2; simp [yv]
      · by_cases e1 : j = i + 1
        · subst e1; simp [yv]
        · by_cases e0 : j = i
          · subst e0; simp [yv]
          · have : (j < i + 4) ↔ (j < i) := by omega
            simp [yv, e0, e1, e2, e3, this]
  · unfold putB
    exact (((((h2.drew.drew).other _ _ (by simp)).other _ _ (by simp)).other _ _ (by simp)).other _ _ (by simp))
  · unfold putB
    exact (((((h3.drew.drew).setCell (by simp) _).setCell (by simp) _).setCell (by simp) _).setCell (by simp) _)
set_option maxRecDepth 20000 in
set_option maxHeartbeats 4000000 in
theorem unmix_any (f t : Nat → BitVec 8) (c : Nat) (w : World) (ht : TabAt c 753 t w) :
    Calls Try.prog 28 #[.pointer (some ⟨c, 0, none⟩), .agg (row 16 (yv f)).toArray] w fun e w' => e = .returned (.agg (row 16 (yv (unmixF t f))).toArray) ∧ Below w.heap.size w w' := by
  have hz := zero32
  have HT0 := hideit ht
  clear ht
  go_enter Try.func28, Try.ntmps28
  go_wp2
  go_loopw [5] (fun i wr => ∃ n : Nat, (n = 0 ∨ n = 4 ∨ n = 8 ∨ n = 12 ∨ n = 16) ∧ i = .int .i64 n ∧ PreAt w.heap.size w t f n wr) (fun i _ => 16 - (intOf i).toNat)
  case atStart =>
    refine ⟨0, by decide, rfl, ?_, ?_, ?_⟩
    · exact ((RowAt.new w 16 (yv f) 50).alloc _).congr (fun j _ => by simp [yv])
    · have := RowAt.newOf (w.alloc (Obj.cells (row 16 (yv f)).toArray 50)) 16 (yv fun _ => 0#8) 50 Y16 (fun j hj => Y16_get j hj _ rfl)
      simpa using this
    · exact ((Below.refl _ _).alloc (Nat.le_refl _) _).alloc (by simp) _
  case round =>
    obtain ⟨n, hn, rfl, hT⟩ := hrel
    by_cases hlt : n < 16
    · have hcB : c < w.heap.size := HT0.out.2
      have hne : ¬ (w.heap.size = c) := by omega
      have hne' : ¬ (c = w.heap.size) := by omega
      have ht : ∀ b : BitVec 8, wr.cell? ⟨c, 753 + b.toNat, none⟩ = some (.int .u8 ((t b.toNat).toNat : Int)) := fun b => (HT0.out.below HT0.out.2 hT.2.2).1 b.toNat b.isLt
      have HT := hideit hT
      obtain ⟨h1, _, _⟩ := hT
      have ox := xB_fact
      have hn' : n = 0 ∨ n = 4 ∨ n = 8 ∨ n = 12 := by omega
      clear hn hlt
      rcases hn' with rfl | rfl | rfl | rfl
      · have e0 := h1.1 0 (by decide)
        have e1 := h1.1 1 (by decide)
        have e2 := h1.1 2 (by decide)
        have e3 := h1.1 3 (by decide)
        have g0 := h1.2.1 0 (by decide)
        have g1 := h1.2.1 1 (by decide)
        have g2 := h1.2.1 2 (by decide)
        have g3 := h1.2.1 3 (by decide)
        simp only [yv, Nat.reduceLT, if_false] at e0 e1 e2 e3
        clear h1
        have t0 := ht (xB (f 0) (f 2))
        have t1 := ht (xB (f 1) (f 3))
        have t2 := ht (t (xB (f 0) (f 2)).toNat)
        have t3 := ht (t (xB (f 1) (f 3)).toNat)
        have b0 : ((xB (f 0) (f 2)).toNat : Int) < 256 := by have := (xB (f 0) (f 2)).isLt; omega
        have b1 : ((xB (f 1) (f 3)).toNat : Int) < 256 := by have := (xB (f 1) (f 3)).isLt; omega
        have b2 : ((t (xB (f 0) (f 2)).toNat).toNat : Int) < 256 := by have := (t (xB (f 0) (f 2)).toNat).isLt; omega
        have b3 : ((t (xB (f 1) (f 3)).toNat).toNat : Int) < 256 := by have := (t (xB (f 1) (f 3)).toNat).isLt; omega
        clear ht
        go_wp2
        go_region
        all_goals (try go_wp2)
        go_region
        all_goals (try go_wp2)
        go_roundw
        case rel =>
          first | exact ⟨4, by decide, by go_num, HT.out.step⟩ | ((repeat apply Exists.intro); exact ⟨⟨4, by decide, by go_num, HT.out.step⟩, rfl⟩)
        case measure => simp [intOf]
      · have e0 := h1.1 4 (by decide)
        have e1 := h1.1 5 (by decide)
        have e2 := h1.1 6 (by decide)
        have e3 := h1.1 7 (by decide)
        have g0 := h1.2.1 4 (by decide)
        have g1 := h1.2.1 5 (by decide)
        have g2 := h1.2.1 6 (by decide)
        have g3 := h1.2.1 7 (by decide)
        simp only [yv, Nat.reduceLT, if_false] at e0 e1 e2 e3
        clear h1
        have t0 := ht (xB (f 4) (f 6))
        have t1 := ht (xB (f 5) (f 7))
        have t2 := ht (t (xB (f 4) (f 6)).toNat)
        have t3 := ht (t (xB (f 5) (f 7)).toNat)
        have b0 : ((xB (f 4) (f 6)).toNat : Int) < 256 := by have := (xB (f 4) (f 6)).isLt; omega
        have b1 : ((xB (f 5) (f 7)).toNat : Int) < 256 := by have := (xB (f 5) (f 7)).isLt; omega
        have b2 : ((t (xB (f 4) (f 6)).toNat).toNat : Int) < 256 := by have := (t (xB (f 4) (f 6)).toNat).isLt; omega
        have b3 : ((t (xB (f 5) (f 7)).toNat).toNat : Int) < 256 := by have := (t (xB (f 5) (f 7)).toNat).isLt; omega
        clear ht
        go_wp2
        go_region
        all_goals (try go_wp2)
        go_region
        all_goals (try go_wp2)
        go_roundw
        case rel =>
          first | exact ⟨8, by decide, by go_num, HT.out.step⟩ | ((repeat apply Exists.intro); exact ⟨⟨8, by decide, by go_num, HT.out.step⟩, rfl⟩)
        case measure => simp [intOf]
      · have e0 := h1.1 8 (by decide)
        have e1 := h1.1 9 (by decide)
        have e2 := h1.1 10 (by decide)
        have e3 := h1.1 11 (by decide)
        have g0 := h1.2.1 8 (by decide)
        have g1 := h1.2.1 9 (by decide)
        have g2 := h1.2.1 10 (by decide)
        have g3 := h1.2.1 11 (by decide)
        simp only [yv, Nat.reduceLT, if_false] at e0 e1 e2 e3
        clear h1
        have t0 := ht (xB (f 8) (f 10))
        have t1 := ht (xB (f 9) (f 11))
        have t2 := ht (t (xB (f 8) (f 10)).toNat)
        have t3 := ht (t (xB (f 9) (f 11)).toNat)
        have b0 : ((xB (f 8) (f 10)).toNat : Int) < 256 := by have := (xB (f 8) (f 10)).isLt; omega
        have b1 : ((xB (f 9) (f 11)).toNat : Int) < 256 := by have := (xB (f 9) (f 11)).isLt; omega
        have b2 : ((t (xB (f 8) (f 10)).toNat).toNat : Int) < 256 := by have := (t (xB (f 8) (f 10)).toNat).isLt; omega
        have b3 : ((t (xB (f 9) (f 11)).toNat).toNat : Int) < 256 := by have := (t (xB (f 9) (f 11)).toNat).isLt; omega
        clear ht
        go_wp2
        go_region
        all_goals (try go_wp2)
        go_region
        all_goals (try go_wp2)
        go_roundw
        case rel =>
          first | exact ⟨12, by decide, by go_num, HT.out.step⟩ | ((repeat apply Exists.intro); exact ⟨⟨12, by decide, by go_num, HT.out.step⟩, rfl⟩)
        case measure => simp [intOf]
      · have e0 := h1.1 12 (by decide)
        have e1 := h1.1 13 (by decide)
        have e2 := h1.1 14 (by decide)
        have e3 := h1.1 15 (by decide)
        have g0 := h1.2.1 12 (by decide)
        have g1 := h1.2.1 13 (by decide)
        have g2 := h1.2.1 14 (by decide)
        have g3 := h1.2.1 15 (by decide)
        simp only [yv, Nat.reduceLT, if_false] at e0 e1 e2 e3
        clear h1
        have t0 := ht (xB (f 12) (f 14))
        have t1 := ht (xB (f 13) (f 15))
        have t2 := ht (t (xB (f 12) (f 14)).toNat)
        have t3 := ht (t (xB (f 13) (f 15)).toNat)
        have b0 : ((xB (f 12) (f 14)).toNat : Int) < 256 := by have := (xB (f 12) (f 14)).isLt; omega
        have b1 : ((xB (f 13) (f 15)).toNat : Int) < 256 := by have := (xB (f 13) (f 15)).isLt; omega
        have b2 : ((t (xB (f 12) (f 14)).toNat).toNat : Int) < 256 := by have := (t (xB (f 12) (f 14)).toNat).isLt; omega
        have b3 : ((t (xB (f 13) (f 15)).toNat).toNat : Int) < 256 := by have := (t (xB (f 13) (f 15)).toNat).isLt; omega
        clear ht
        go_wp2
        go_region
        all_goals (try go_wp2)
        go_region
        all_goals (try go_wp2)
        go_roundw
        case rel =>
          first | exact ⟨16, by decide, by go_num, HT.out.step⟩ | ((repeat apply Exists.intro); exact ⟨⟨16, by decide, by go_num, HT.out.step⟩, rfl⟩)
        case measure => simp [intOf]
    · obtain rfl : n = 16 := by omega
      obtain ⟨h1, h3, hB⟩ := hT
      have HTW := hideit (HT0.out.below HT0.out.2 hB)
      have HR := hideit (h1.congr (g' := yv (preF t f)) (fun j hj => by simp [yv, hj]))
      have HR0 := hideit h3
      clear h1 h3
      go_wp2_with (first | (refine wpList_load_mid rfl 50 (.tmp 3) rfl _ 0 rfl (row 16 (yv (preF t f))) _ HR.out.range Try.underlying50 rfl (by rw [row_length]; exact info32) ?_) | (go_at_call 23; refine (mix_any (preF t f) t c _ HTW.out).mono ?_; rintro e w' ⟨rfl, hb⟩) | (refine wpList_store_mid rfl 50 (.tmp 4) (.tmp 78) rfl _ 0 (row 16 (yv (mixF t (preF t f)))).toArray rfl rfl (by rw [row_size]; exact (HR0.out.carry hb).there) (by rw [row_size]; exact info32) (row_one fun _ _ => rfl) ?_))
      exact bodyPost_ret (ret_row Try.results28 rfl ((HR0.out.carry hb).cells (g' := yv (mixF t (preF t f)))) Try.underlying50 rfl info32) rfl ⟨rfl, below_setCells _ (by omega) _ _ _ (hB.trans (hb.mono hB.size))⟩
end Go.Proofs.Ytkoodgfadedeoab
