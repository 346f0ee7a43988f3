/-
  A key made ready, as it lies in memory; its round keys and rounds. The cipher's turning of rows. The cipher's mixing of columns: what it answers, for every block and any table of doubles.
-/
import Derived.Test.YtfpfgbhdehbggaaGreatDoorQc19
namespace Go.Proofs.YtfpfgbhdehbggaaGreatDoor
set_option maxRecDepth 20000
open Go.RowKit
def cv (r : Nat) (K bx ub tw : Nat → BitVec 8) (j : Nat) : Value :=
  if j = 0 then .int .i64 (r : Int) else if j < 241 then yv K (j - 1) else if j < 497 then yv bx (j - 241) else if j < 753 then yv ub (j - 497) else yv tw (j - 753)
def CipherAt (c r : Nat) (K bx ub tw : Nat → BitVec 8) (w : World) : Prop := RowAt c 1009 (cv r K bx ub tw) w
section
variable {c r : Nat} {K bx ub tw : Nat → BitVec 8} {w : World}
theorem CipherAt.rounds (h : CipherAt c r K bx ub tw w) : w.cell? ⟨c, 0, none⟩ = some (.int .i64 (r : Int)) := h.1 0 (by decide)
theorem CipherAt.key (h : CipherAt c r K bx ub tw w) (n : Nat) (hn : n ≤ 14) : w.rangeAt c (1 + n * 16) (row 16 (yv fun j => K (n * 16 + j))) := fun j v hvA => by
  obtain ⟨hj, rfl⟩ := row_some hvA
  have := h.1 (1 + n * 16 + j) (by omega)
  rw [this]
  have h0 : ¬ (1 + n * 16 + j = 0) := by omega
  have h1 : 1 + n * 16 + j < 241 := by omega
  have h2 : 1 + n * 16 + j - 1 = n * 16 + j := by omega
  simp only [cv, if_neg h0, if_pos h1, yv, h2]
theorem CipherAt.box (h : CipherAt c r K bx ub tw w) : TabAt c 241 bx w := ⟨fun j hj => by
  have := h.1 (241 + j) (by omega)
  rw [this]
  have h0 : ¬ (241 + j = 0) := by omega
  have h1 : ¬ (241 + j < 241) := by omega
  have h2 : 241 + j < 497 := by omega
  have h3 : 241 + j - 241 = j := by omega
  simp only [cv, if_neg h0, if_neg h1, if_pos h2, yv, h3], h.2.2⟩
theorem CipherAt.unbox (h : CipherAt c r K bx ub tw w) : TabAt c 497 ub w := ⟨fun j hj => by
  have := h.1 (497 + j) (by omega)
  rw [this]
  have h0 : ¬ (497 + j = 0) := by omega
  have h1 : ¬ (497 + j < 241) := by omega
  have h2 : ¬ (497 + j < 497) := by omega
  have h4 : 497 + j < 753 := by omega
  have h3 : 497 + j - 497 = j := by omega
  simp only [cv, if_neg h0, if_neg h1, if_neg h2, if_pos h4, yv, h3], h.2.2⟩
theorem CipherAt.twice (h : CipherAt c r K bx ub tw w) : TabAt c 753 tw w := ⟨fun j hj => by
  have := h.1 (753 + j) (by omega)
  rw [this]
  have h0 : ¬ (753 + j = 0) := by omega
  have h1 : ¬ (753 + j < 241) := by omega
  have h2 : ¬ (753 + j < 497) := by omega
  have h4 : ¬ (753 + j < 753) := by omega
  have h3 : 753 + j - 753 = j := by omega
  simp only [cv, if_neg h0, if_neg h1, if_neg h2, if_neg h4, yv, h3], h.2.2⟩
theorem CipherAt.carry {w' : World} (h : CipherAt c r K bx ub tw w) (hB : Below w.heap.size w w') : CipherAt c r K bx ub tw w' := RowAt.carry h hB
end
theorem store_Y16 (w : World) : Sem.run Tryz.prog (zeroValue 52) w = .ok (.agg (row 16 (yv fun _ => 0#8)).toArray) w := zero32 w
end Go.Proofs.YtfpfgbhdehbggaaGreatDoor
namespace Go.Proofs.YtfpfgbhdehbggaaGreatDoor
set_option maxRecDepth 20000
open Go.RowKit
def turnF (m : Nat) (f : Nat → BitVec 8) (i : Nat) : BitVec 8 := f ((i + 4 * (i % 4) * m) % 16)
def TurnAt (B : Nat) (w : World) (m : Nat) (f : Nat → BitVec 8) (i : Nat) (X : World) : Prop :=
  RowAt B 16 (yv f) X ∧ RowAt (B + 1) 16 (yv fun _ => 0#8) X ∧ RowAt (B + 1 + 1) 16 (yv fun j => if j < i then turnF m f j else 0#8) X ∧ Below B w X
theorem TurnAt.step {B : Nat} {w X : World} {m : Nat} {f : Nat → BitVec 8} {i : Nat} (h : TurnAt B w m f i X) : TurnAt B w m f (i + 1) (X.setCell ⟨B + 1 + 1, i, none⟩ (.int .u8 ((turnF m f i).toNat : Int))) := by
  obtain ⟨h1, h2, h3, h4⟩ := h
  refine ⟨h1.other _ _ (by simp; omega), h2.other _ _ (by simp), (h3.set i _).congr ?_, h4.setCell (by simp; omega) _⟩
  intro j _
  by_cases e : j = i
  · subst e; simp [yv]
  · have : (j < i + 1) ↔ (j < i) := by omega
    simp [yv, e, this]
set_option maxRecDepth 20000 in
set_option maxHeartbeats 1000000 in
theorem turnRows_any (f : Nat → BitVec 8) (m : Nat) (hm : m = 1 ∨ m = 3) (w : World) :
    Calls Tryz.prog 64 #[.agg (row 16 (yv f)).toArray, .int .i64 (m : Int)] w fun e w' => e = .returned (.agg (row 16 (yv (turnF m f))).toArray) ∧ Below w.heap.size w w' := by
  have hz := zero32
  go_enter Tryz.func64, Tryz.ntmps64
  go_wp2
  go_loopw [8] (fun i wr => ∃ n : Nat, n ≤ 16 ∧ i = .int .i64 n ∧ TurnAt w.heap.size w m f n wr) (fun i _ => 16 - (intOf i).toNat)
  case atStart =>
    refine ⟨0, by omega, rfl, ?_, ?_, ?_, ?_⟩
    · exact ((RowAt.new w 16 (yv f) 52).alloc _).alloc _
    · have := (RowAt.newOf (w.alloc (Obj.cells (row 16 (yv f)).toArray 52)) 16 (yv fun _ => 0#8) 52 Y16 (fun j hj => Y16_get j hj _ rfl)).alloc (Obj.cells Y16 52)
      simpa using this
    · have := RowAt.newOf ((w.alloc (Obj.cells (row 16 (yv f)).toArray 52)).alloc (Obj.cells Y16 52)) 16 (yv fun j => if j < 0 then turnF m f j else 0#8) 52 Y16 (fun j hj => Y16_get j hj _ (if_neg (by omega)))
      simpa using this
    · exact (((Below.refl _ _).alloc (Nat.le_refl _) _).alloc (by simp) _).alloc (by simp; omega) _
  case round =>
    obtain ⟨n, hn, rfl, hT⟩ := hrel
    by_cases hlt : n < 16
    · have HT := hideit hT
      obtain ⟨h1, _, h3, _⟩ := hT
      have e1 := h1.1 ((n + 4 * (n % 4) * m) % 16) (Nat.mod_lt _ (by decide))
      have e3 := h3.1 n hlt
      have g3 := h3.2.1 n hlt
      have e1' : wr.cell? ⟨w.heap.size, (n + 4 * (n % 4) * m) % 16, none⟩ = some (.int .u8 ((turnF m f n).toNat : Int)) := e1
      clear h1 h3 e1
      have i0 : (0 : Int) ≤ (n : Int) := by omega
      have i1 : (n : Int) < 16 := by omega
      have c4 : ((n : Int) % 4).toNat = n % 4 := by omega
      rcases hm with rfl | rfl
      · have e1 : wr.cell? ⟨w.heap.size, (n + 4 * (n % 4)) % 16, none⟩ = some (.int .u8 ((turnF 1 f n).toNat : Int)) := by simpa using e1'
        clear e1'
        go_wp2
        go_roundw
        case rel =>
          first | exact ⟨(n + 1 : Nat), by omega, by go_num, HT.out.step⟩ | ((repeat apply Exists.intro); exact ⟨⟨n + 1, by omega, by go_num, HT.out.step⟩, rfl⟩)
        case measure => simp [intOf]; omega
      · go_wp2
        go_roundw
        case rel =>
          first | exact ⟨(n + 1 : Nat), by omega, by go_num, HT.out.step⟩ | ((repeat apply Exists.intro); exact ⟨⟨n + 1, by omega, by go_num, HT.out.step⟩, rfl⟩)
        case measure => simp [intOf]; omega
    · obtain rfl : n = 16 := by omega
      obtain ⟨_, h2, h3, hB⟩ := hT
      have HR := hideit (h3.congr (g' := yv (turnF m f)) (fun j hj => by simp [yv, hj]))
      have HR0 := hideit h2
      clear h2 h3
      go_wp2_with (first | (refine wpList_load_mid rfl 52 (.tmp 5) rfl _ 0 rfl (row 16 (yv (turnF m f))) _ HR.out.range Tryz.underlying52 rfl (by rw [row_length]; exact info32) ?_) | (refine wpList_store_mid rfl 52 (.tmp 4) (.tmp 25) rfl _ 0 (row 16 (yv (turnF m f))).toArray rfl rfl (by rw [row_size]; exact HR0.out.there) (by rw [row_size]; exact info32) (row_one fun _ _ => rfl) ?_))
      refine bodyPost_ret (v := .agg (row 16 (yv (turnF m f))).toArray) ?_ rfl ⟨rfl, below_setCells _ (by omega) _ _ _ hB⟩
      have hl := run_loadVar_mid (P := Tryz.prog) (wr.setCells (w.heap.size + 1) 0 (row 16 (yv (turnF m f)))) (w.heap.size + 1) 0 52 (row 16 (yv (turnF m f))) _ (HR0.out.cells (g' := yv (turnF m f))).range Tryz.underlying52 rfl (by rw [row_length]; exact info32)
      simp [results, Tryz.results64, Act.put, asAddr, hl]
end Go.Proofs.YtfpfgbhdehbggaaGreatDoor
namespace Go.Proofs.YtfpfgbhdehbggaaGreatDoor
set_option maxRecDepth 20000
open Go.RowKit
def allFA (f : Nat → BitVec 8) (c : Nat) : BitVec 8 := xB (xB (xB (f c) (f (c + 1))) (f (c + 2))) (f (c + 3))
def mixF (t f : Nat → BitVec 8) (j : Nat) : BitVec 8 := xB (f j) (xB (allFA f (j / 4 * 4)) (t (xB (f j) (f (j / 4 * 4 + (j + 1) % 4))).toNat))
def MixAt (B : Nat) (w : World) (t f : Nat → BitVec 8) (i : Nat) (X : World) : Prop :=
  RowAt B 16 (yv fun j => if j < i then mixF t f j else f j) X ∧ RowAt (B + 1) 16 (yv fun _ => 0#8) X ∧ Below B w X
def putY (B : Nat) (i : Nat) (v : BitVec 8) (X : World) : World := (X.setCell ⟨B, i, none⟩ (.int .u8 (v.toNat : Int))).drew
theorem MixAt.step {B : Nat} {w X : World} {t f : Nat → BitVec 8} {i : Nat} (h : MixAt B w t f i X) :
    MixAt B w t f (i + 4) (putY B (i + 3) (mixF t f (i + 3)) (putY B (i + 2) (mixF t f (i + 2)) (putY B (i + 1) (mixF t f (i + 1)) (putY B i (mixF t f i) X.drew)))) := by
  obtain ⟨h1, h2, h3⟩ := h
  refine ⟨((((((((h1.drew).set i _).drew).set (i + 1) _).drew).set (i + 2) _).drew).set (i + 3) _ |>.congr ?_).drew, ?_, ?_⟩
  · intro j _
    by_cases e3 : j = i + 3
    · subst e3; simp [yv]
    · by_cases e2 : j = i + 2
      · subst e2; simp [yv]
      · by_cases e1 : j = i + 1
        · subst e1; simp [yv]
        · by_cases e0 : j = i
          · subst e0; simp [yv]
          · have : (j < i + 4) ↔ (j < i) := by omega
            simp [yv, e0, e1, e2, e3, this]
  · unfold putY
    exact (((((((h2.drew).other _ _ (by simp)).drew).other _ _ (by simp)).drew.other _ _ (by simp)).drew).other _ _ (by simp)).drew
  · unfold putY
    exact (((((((h3.drew).setCell (by simp) _).drew).setCell (by simp) _).drew).setCell (by simp) _).drew.setCell (by simp) _).drew
set_option maxRecDepth 20000 in
set_option maxHeartbeats 4000000 in
theorem mix_any (f t : Nat → BitVec 8) (c : Nat) (w : World) (ht : TabAt c 753 t w) :
    Calls Tryz.prog 63 #[.pointer (some ⟨c, 0, none⟩), .agg (row 16 (yv f)).toArray] w fun e w' => e = .returned (.agg (row 16 (yv (mixF t f))).toArray) ∧ Below w.heap.size w w' := by
  have hz := zero32
  have HT0 := hideit ht
  clear ht
  go_enter Tryz.func63, Tryz.ntmps63
  go_wp2
  go_loopw [5] (fun i wr => ∃ n : Nat, (n = 0 ∨ n = 4 ∨ n = 8 ∨ n = 12 ∨ n = 16) ∧ i = .int .i64 n ∧ MixAt w.heap.size w t f n wr) (fun i _ => 16 - (intOf i).toNat)
  case atStart =>
    refine ⟨0, by decide, rfl, ?_, ?_, ?_⟩
    · exact ((RowAt.new w 16 (yv f) 52).alloc _).congr (fun j _ => by simp [yv])
    · have := RowAt.newOf (w.alloc (Obj.cells (row 16 (yv f)).toArray 52)) 16 (yv fun _ => 0#8) 52 Y16 (fun j hj => Y16_get j hj _ rfl)
      simpa using this
    · exact ((Below.refl _ _).alloc (Nat.le_refl _) _).alloc (by simp) _
  case round =>
    obtain ⟨n, hn, rfl, hT⟩ := hrel
    by_cases hlt : n < 16
    · have hcB : c < w.heap.size := HT0.out.2
      have hne : ¬ (w.heap.size = c) := by omega
      have hne' : ¬ (c = w.heap.size) := by omega
      have ht : ∀ b : BitVec 8, wr.cell? ⟨c, 753 + b.toNat, none⟩ = some (.int .u8 ((t b.toNat).toNat : Int)) := fun b => (HT0.out.below HT0.out.2 hT.2.2).1 b.toNat b.isLt
      have HT := hideit hT
      obtain ⟨h1, _, _⟩ := hT
      have ox := xB_fact
      have hn' : n = 0 ∨ n = 4 ∨ n = 8 ∨ n = 12 := by omega
      clear hn hlt
      rcases hn' with rfl | rfl | rfl | rfl
      · have e0 := h1.1 0 (by decide)
        have e1 := h1.1 1 (by decide)
        have e2 := h1.1 2 (by decide)
        have e3 := h1.1 3 (by decide)
        have g0 := h1.2.1 0 (by decide)
        have g1 := h1.2.1 1 (by decide)
        have g2 := h1.2.1 2 (by decide)
        have g3 := h1.2.1 3 (by decide)
        simp only [yv, Nat.reduceLT, if_false] at e0 e1 e2 e3
        clear h1
        have t0 := ht (xB (f 0) (f 1))
        have t1 := ht (xB (f 1) (f 2))
        have t2 := ht (xB (f 2) (f 3))
        have t3 := ht (xB (f 3) (f 0))
        have b0 : ((xB (f 0) (f 1)).toNat : Int) < 256 := by have := (xB (f 0) (f 1)).isLt; omega
        have b1 : ((xB (f 1) (f 2)).toNat : Int) < 256 := by have := (xB (f 1) (f 2)).isLt; omega
        have b2 : ((xB (f 2) (f 3)).toNat : Int) < 256 := by have := (xB (f 2) (f 3)).isLt; omega
        have b3 : ((xB (f 3) (f 0)).toNat : Int) < 256 := by have := (xB (f 3) (f 0)).isLt; omega
        clear ht
        go_wp2
        go_region
        all_goals (try go_wp2)
        go_region
        all_goals (try go_wp2)
        go_region
        all_goals (try go_wp2)
        go_region
        all_goals (try go_wp2)
        go_region
        all_goals (try go_wp2)
        go_roundw
        case rel =>
          first | exact ⟨4, by decide, by go_num, HT.out.step⟩ | ((repeat apply Exists.intro); exact ⟨⟨4, by decide, by go_num, HT.out.step⟩, rfl⟩)
        case measure => simp [intOf]
      · have e0 := h1.1 4 (by decide)
        have e1 := h1.1 5 (by decide)
        have e2 := h1.1 6 (by decide)
        have e3 := h1.1 7 (by decide)
        have g0 := h1.2.1 4 (by decide)
        have g1 := h1.2.1 5 (by decide)
        have g2 := h1.2.1 6 (by decide)
        have g3 := h1.2.1 7 (by decide)
        simp only [yv, Nat.reduceLT, if_false] at e0 e1 e2 e3
        clear h1
        have t0 := ht (xB (f 4) (f 5))
        have t1 := ht (xB (f 5) (f 6))
        have t2 := ht (xB (f 6) (f 7))
        have t3 := ht (xB (f 7) (f 4))
        have b0 : ((xB (f 4) (f 5)).toNat : Int) < 256 := by have := (xB (f 4) (f 5)).isLt; omega
        have b1 : ((xB (f 5) (f 6)).toNat : Int) < 256 := by have := (xB (f 5) (f 6)).isLt; omega
        have b2 : ((xB (f 6) (f 7)).toNat : Int) < 256 := by have := (xB (f 6) (f 7)).isLt; omega
        have b3 : ((xB (f 7) (f 4)).toNat : Int) < 256 := by have := (xB (f 7) (f 4)).isLt; omega
        clear ht
        go_wp2
        go_region
        all_goals (try go_wp2)
        go_region
        all_goals (try go_wp2)
        go_region
        all_goals (try go_wp2)
        go_region
        all_goals (try go_wp2)
        go_region
        all_goals (try go_wp2)
        go_roundw
        case rel =>
          first | exact ⟨8, by decide, by go_num, HT.out.step⟩ | ((repeat apply Exists.intro); exact ⟨⟨8, by decide, by go_num, HT.out.step⟩, rfl⟩)
        case measure => simp [intOf]
      · have e0 := h1.1 8 (by decide)
        have e1 := h1.1 9 (by decide)
        have e2 := h1.1 10 (by decide)
        have e3 := h1.1 11 (by decide)
        have g0 := h1.2.1 8 (by decide)
        have g1 := h1.2.1 9 (by decide)
        have g2 := h1.2.1 10 (by decide)
        have g3 := h1.2.1 11 (by decide)
        simp only [yv, Nat.reduceLT, if_false] at e0 e1 e2 e3
        clear h1
        have t0 := ht (xB (f 8) (f 9))
        have t1 := ht (xB (f 9) (f 10))
        have t2 := ht (xB (f 10) (f 11))
        have t3 := ht (xB (f 11) (f 8))
        have b0 : ((xB (f 8) (f 9)).toNat : Int) < 256 := by have := (xB (f 8) (f 9)).isLt; omega
        have b1 : ((xB (f 9) (f 10)).toNat : Int) < 256 := by have := (xB (f 9) (f 10)).isLt; omega
        have b2 : ((xB (f 10) (f 11)).toNat : Int) < 256 := by have := (xB (f 10) (f 11)).isLt; omega
        have b3 : ((xB (f 11) (f 8)).toNat : Int) < 256 := by have := (xB (f 11) (f 8)).isLt; omega
        clear ht
        go_wp2
        go_region
        all_goals (try go_wp2)
        go_region
        all_goals (try go_wp2)
        go_region
        all_goals (try go_wp2)
        go_region
        all_goals (try go_wp2)
        go_region
        all_goals (try go_wp2)
        go_roundw
        case rel =>
          first | exact ⟨12, by decide, by go_num, HT.out.step⟩ | ((repeat apply Exists.intro); exact ⟨⟨12, by decide, by go_num, HT.out.step⟩, rfl⟩)
        case measure => simp [intOf]
      · have e0 := h1.1 12 (by decide)
        have e1 := h1.1 13 (by decide)
        have e2 := h1.1 14 (by decide)
        have e3 := h1.1 15 (by decide)
        have g0 := h1.2.1 12 (by decide)
        have g1 := h1.2.1 13 (by decide)
        have g2 := h1.2.1 14 (by decide)
        have g3 := h1.2.1 15 (by decide)
        simp only [yv, Nat.reduceLT, if_false] at e0 e1 e2 e3
        clear h1
        have t0 := ht (xB (f 12) (f 13))
        have t1 := ht (xB (f 13) (f 14))
        have t2 := ht (xB (f 14) (f 15))
        have t3 := ht (xB (f 15) (f 12))
        have b0 : ((xB (f 12) (f 13)).toNat : Int) < 256 := by have := (xB (f 12) (f 13)).isLt; omega
        have b1 : ((xB (f 13) (f 14)).toNat : Int) < 256 := by have := (xB (f 13) (f 14)).isLt; omega
        have b2 : ((xB (f 14) (f 15)).toNat : Int) < 256 := by have := (xB (f 14) (f 15)).isLt; omega
        have b3 : ((xB (f 15) (f 12)).toNat : Int) < 256 := by have := (xB (f 15) (f 12)).isLt; omega
        clear ht
        go_wp2
        go_region
        all_goals (try go_wp2)
        go_region
        all_goals (try go_wp2)
        go_region
        all_goals (try go_wp2)
        go_region
        all_goals (try go_wp2)
        go_region
        all_goals (try go_wp2)
        go_roundw
        case rel =>
          first | exact ⟨16, by decide, by go_num, HT.out.step⟩ | ((repeat apply Exists.intro); exact ⟨⟨16, by decide, by go_num, HT.out.step⟩, rfl⟩)
        case measure => simp [intOf]
    · obtain rfl : n = 16 := by omega
      obtain ⟨h1, h3, hB⟩ := hT
      have HR := hideit (h1.congr (g' := yv (mixF t f)) (fun j hj => by simp [yv, hj]))
      have HR0 := hideit h3
      clear h1 h3
      go_wp2_with (first | (refine wpList_load_mid rfl 52 (.tmp 3) rfl _ 0 rfl (row 16 (yv (mixF t f))) _ HR.out.range Tryz.underlying52 rfl (by rw [row_length]; exact info32) ?_) | (refine wpList_store_mid rfl 52 (.tmp 4) (.tmp 100) rfl _ 0 (row 16 (yv (mixF t f))).toArray rfl rfl (by rw [row_size]; exact HR0.out.there) (by rw [row_size]; exact info32) (row_one fun _ _ => rfl) ?_))
      refine bodyPost_ret (v := .agg (row 16 (yv (mixF t f))).toArray) ?_ rfl ⟨rfl, below_setCells _ (by omega) _ _ _ hB⟩
      have hl := run_loadVar_mid (P := Tryz.prog) (wr.setCells (w.heap.size + 1) 0 (row 16 (yv (mixF t f)))) (w.heap.size + 1) 0 52 (row 16 (yv (mixF t f))) _ (HR0.out.cells (g' := yv (mixF t f))).range Tryz.underlying52 rfl (by rw [row_length]; exact info32)
      simp [results, Tryz.results63, asAddr, hl]
end Go.Proofs.YtfpfgbhdehbggaaGreatDoor
