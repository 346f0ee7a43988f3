/-
  The tables of the cipher: facts on bytes and cells. A word of the key through the box. The words of a key, as the cipher's own text makes them; facts on rows of cells.
-/
import Derived.Test.YtfpfgbhdehbggaaGreatDoorQb2
import Derived.Test.YtfpfgbhdehbggaaGreatDoorQb20
import Derived.Test.YtfpfgbhdehbggaaGreatDoorQb19
import Derived.Test.YtfpfgbhdehbggaaGreatDoorQb5
import Derived.Laws.IdiomCopy
namespace Go.Proofs.YtfpfgbhdehbggaaGreatDoor
set_option maxRecDepth 20000
open Go.RowKit Go.BigFrame
def bxT (i : Nat) : BitVec 8 := boxB (BitVec.ofNat 8 i)
def ubT (i : Nat) : BitVec 8 := unboxB (BitVec.ofNat 8 i)
def twT (i : Nat) : BitVec 8 := mB (BitVec.ofNat 8 i) 2#8
theorem of8 (n : Nat) (hn : n < 256) : ((BitVec.ofNat 8 n).toNat : Int) = (n : Int) := by simp; omega
theorem box_tab (n : Nat) (hn : n < 256) (w : World) : Calls Tryz.prog 99 #[.int .u8 (n : Int)] w fun e w' => e = .returned (.int .u8 ((bxT n).toNat : Int)) ∧ w' = w := by
  have h := box_any (BitVec.ofNat 8 n) w
  rw [of8 n hn] at h
  exact h
theorem mul_tab (n : Nat) (hn : n < 256) (w : World) : Calls Tryz.prog 100 #[.int .u8 (n : Int), .int .u8 2] w fun e w' => e = .returned (.int .u8 ((twT n).toNat : Int)) ∧ Below w.heap.size w w' := by
  have h := mul_any (BitVec.ofNat 8 n) 2#8 w
  rw [of8 n hn] at h
  exact h.mono fun e w' ⟨h1, h2⟩ => ⟨h1, by rw [h2]; exact Below.refl _ _⟩
def bxP (n j : Nat) : BitVec 8 := if j < n then bxT j else 0#8
def ubP (n j : Nat) : BitVec 8 := if (ubT j).toNat < n then ubT j else 0#8
def twP (n j : Nat) : BitVec 8 := if j < n then twT j else 0#8
theorem box_unbox : ∀ a : BitVec 8, boxB (unboxB a) = a := by decide +kernel
theorem ub_bx (n : Nat) : ubT (bxT n).toNat = BitVec.ofNat 8 n := by
  unfold ubT bxT
  rw [BitVec.ofNat_toNat, BitVec.setWidth_eq, unbox_box]
theorem ub_eq (n j : Nat) (hn : n < 256) (hj : j < 256) (h : (ubT j).toNat = n) : j = (bxT n).toNat := by
  have h1 : ubT j = BitVec.ofNat 8 n := BitVec.eq_of_toNat_eq (by rw [h]; simp; omega)
  unfold bxT
  rw [← h1]
  unfold ubT
  rw [box_unbox]
  simp
  omega
theorem cv_step (r : Nat) (K : Nat → BitVec 8) (n : Nat) (hn : n < 256) (j : Nat) (hj : j < 1009) :
    (if j = 753 + n then (Value.int .u8 ((twT n).toNat : Int)) else if j = 497 + (bxT n).toNat then .int .u8 (n : Int) else if j = 241 + n then .int .u8 ((bxT n).toNat : Int) else cv r K (bxP n) (ubP n) (twP n) j) = cv r K (bxP (n + 1)) (ubP (n + 1)) (twP (n + 1)) j := by
  have hb := (bxT n).isLt
  unfold cv
  by_cases h0 : j = 0
  · subst h0
    rw [if_neg (by omega), if_neg (by omega), if_neg (by omega), if_pos rfl, if_pos rfl]
  by_cases h1 : j < 241
  · rw [if_neg (by omega), if_neg (by omega), if_neg (by omega), if_neg h0, if_pos h1, if_neg h0, if_pos h1]
  by_cases h2 : j < 497
  · rw [if_neg (by omega), if_neg (by omega), if_neg h0, if_neg h1, if_pos h2, if_neg h0, if_neg h1, if_pos h2]
    by_cases e : j = 241 + n
    · subst e
      rw [if_pos rfl]
      simp only [yv, bxP, show 241 + n - 241 = n by omega, if_pos (show n < n + 1 by omega)]
    · rw [if_neg e]
      simp only [yv, bxP, show (j - 241 < n + 1) ↔ (j - 241 < n) by omega]
  by_cases h3 : j < 753
  · rw [if_neg (by omega), if_neg (show ¬ j = 241 + n by omega), if_neg h0, if_neg h1, if_neg h2, if_pos h3, if_neg h0, if_neg h1, if_neg h2, if_pos h3]
    by_cases e : j = 497 + (bxT n).toNat
    · subst e
      rw [if_pos rfl]
      simp only [yv, ubP, show 497 + (bxT n).toNat - 497 = (bxT n).toNat by omega, ub_bx n]
      rw [if_pos (by simp; omega), of8 n hn]
    · rw [if_neg e]
      have hne : (ubT (j - 497)).toNat ≠ n := fun h => e (by have := ub_eq n (j - 497) hn (by omega) h; omega)
      simp only [yv, ubP, show ((ubT (j - 497)).toNat < n + 1) ↔ ((ubT (j - 497)).toNat < n) by omega]
  · rw [if_neg (show ¬ j = 497 + (bxT n).toNat by omega), if_neg (show ¬ j = 241 + n by omega), if_neg h0, if_neg h1, if_neg h2, if_neg h3, if_neg h0, if_neg h1, if_neg h2, if_neg h3]
    by_cases e : j = 753 + n
    · subst e
      rw [if_pos rfl]
      simp only [yv, twP, show 753 + n - 753 = n by omega, if_pos (show n < n + 1 by omega)]
    · rw [if_neg e]
      simp only [yv, twP, show (j - 753 < n + 1) ↔ (j - 753 < n) by omega]
def FillAt (c r : Nat) (K : Nat → BitVec 8) (w : World) (n : Nat) (X : World) : Prop := CipherAt c r K (bxP n) (ubP n) (twP n) X ∧ Below c w X
theorem cv_end (r : Nat) (K : Nat → BitVec 8) (j : Nat) (hj : j < 1009) : cv r K (bxP 256) (ubP 256) (twP 256) j = cv r K bxT ubT twT j := by
  have hb := (ubT (j - 497)).isLt
  unfold cv
  by_cases h0 : j = 0
  · rw [if_pos h0, if_pos h0]
  by_cases h1 : j < 241
  · rw [if_neg h0, if_pos h1, if_neg h0, if_pos h1]
  by_cases h2 : j < 497
  · rw [if_neg h0, if_neg h1, if_pos h2, if_neg h0, if_neg h1, if_pos h2]
    simp only [yv, bxP, if_pos (show j - 241 < 256 by omega)]
  by_cases h3 : j < 753
  · rw [if_neg h0, if_neg h1, if_neg h2, if_pos h3, if_neg h0, if_neg h1, if_neg h2, if_pos h3]
    simp only [yv, ubP, if_pos (show (ubT (j - 497)).toNat < 256 by omega)]
  · rw [if_neg h0, if_neg h1, if_neg h2, if_neg h3, if_neg h0, if_neg h1, if_neg h2, if_neg h3]
    simp only [yv, twP, if_pos (show j - 753 < 256 by omega)]
end Go.Proofs.YtfpfgbhdehbggaaGreatDoor
namespace Go.Proofs.YtfpfgbhdehbggaaGreatDoor
set_option maxRecDepth 20000
open Go.RowKit
def Y4 : Array Value := (row 4 (yv fun _ => 0#8)).toArray
theorem zero63 (w : World) : Sem.run Tryz.prog (zeroValue 129) w = .ok (.agg Y4) w := by kernel_rfl
theorem info63 : (Tryz.prog.info? 129).map (·.size) = some 4 := by kernel_rfl
theorem Y4_get (j : Nat) (hj : j < 4) (f : Nat → BitVec 8) (hf : f j = 0#8) : Y4[j]? = some (yv f j) := by
  unfold Y4
  rw [List.getElem?_toArray, row_get 4 _ j hj]
  simp [yv, hf]
def BoxwAt (B : Nat) (w : World) (t f : Nat → BitVec 8) (i : Nat) (X : World) : Prop :=
  RowAt B 4 (yv fun j => if j < i then replF t f j else f j) X ∧ RowAt (B + 1) 4 (yv fun _ => 0#8) X ∧ Below B w X
theorem BoxwAt.step {B : Nat} {w X : World} {t f : Nat → BitVec 8} {i : Nat} (h : BoxwAt B w t f i X) : BoxwAt B w t f (i + 1) (X.setCell ⟨B, i, none⟩ (.int .u8 ((replF t f i).toNat : Int))).drew := by
  obtain ⟨h1, h3, h4⟩ := h
  refine ⟨((h1.set i _).congr ?_).drew, (h3.other _ _ (by simp)).drew, (h4.setCell (by simp) _).drew⟩
  intro j _
  by_cases e : j = i
  · subst e; simp [yv]
  · have : (j < i + 1) ↔ (j < i) := by omega
    simp [yv, e, this]
set_option maxRecDepth 20000 in
set_option maxHeartbeats 1000000 in
theorem boxWord_any (f t : Nat → BitVec 8) (c : Nat) (w : World) (ht : TabAt c 241 t w) :
    Calls Tryz.prog 116 #[.pointer (some ⟨c, 0, none⟩), .agg (row 4 (yv f)).toArray] w fun e w' => e = .returned (.agg (row 4 (yv (replF t f))).toArray) ∧ Below w.heap.size w w' := by
  have hz := zero63
  have HT0 := hideit ht
  clear ht
  go_enter Tryz.func116, Tryz.ntmps116
  go_wp2
  go_loopw [6] (fun i wr => ∃ n : Nat, n ≤ 4 ∧ i = .int .i64 n ∧ BoxwAt w.heap.size w t f n wr) (fun i _ => 4 - (intOf i).toNat)
  case atStart =>
    refine ⟨0, by omega, rfl, ?_, ?_, ?_⟩
    · exact ((RowAt.new w 4 (yv f) 129).alloc _).congr (fun j _ => by simp [yv])
    · have := RowAt.newOf (w.alloc (Obj.cells (row 4 (yv f)).toArray 129)) 4 (yv fun _ => 0#8) 129 Y4 (fun j hj => Y4_get j hj _ rfl)
      simpa using this
    · exact ((Below.refl _ _).alloc (Nat.le_refl _) _).alloc (by simp) _
  case round =>
    obtain ⟨n, hn, rfl, hT⟩ := hrel
    by_cases hlt : n < 4
    · have HT := hideit hT
      obtain ⟨h1, _, hB⟩ := hT
      have e1 := h1.1 n hlt
      have g1 := h1.2.1 n hlt
      have b1 := (f n).isLt
      have e2 := (HT0.out.below HT0.out.2 hB).1 (f n).toNat b1
      simp only [yv, if_neg (Nat.lt_irrefl n)] at e1
      have e2' : wr.cell? ⟨c, 241 + (f n).toNat, none⟩ = some (.int .u8 ((replF t f n).toNat : Int)) := e2
      clear h1 hB e2
      have i0 : (0 : Int) ≤ (n : Int) := by omega
      have i1 : (n : Int) < 4 := by omega
      have i2 : ((f n).toNat : Int) < 256 := by omega
      go_wp2
      go_region
      all_goals (try go_wp2)
      go_roundw
      case rel =>
        first | exact ⟨(n + 1 : Nat), by omega, by go_num, HT.out.step⟩ | ((repeat apply Exists.intro); exact ⟨⟨n + 1, by omega, by go_num, HT.out.step⟩, rfl⟩)
      case measure => simp [intOf]; omega
    · obtain rfl : n = 4 := by omega
      obtain ⟨h1, h3, hB⟩ := hT
      have HR := hideit (h1.congr (g' := yv (replF t f)) (fun j hj => by simp [yv, hj]))
      have HR0 := hideit h3
      clear h1 h3
      go_wp2_with (first | (refine wpList_load_mid rfl 129 (.tmp 3) rfl _ 0 rfl (row 4 (yv (replF t f))) _ HR.out.range Tryz.underlying129 rfl (by rw [row_length]; exact info63) ?_) | (refine wpList_store_mid rfl 129 (.tmp 4) (.tmp 20) rfl _ 0 (row 4 (yv (replF t f))).toArray rfl rfl (by rw [row_size]; exact HR0.out.there) (by rw [row_size]; exact info63) (row_one fun _ _ => rfl) ?_))
      refine bodyPost_ret (v := .agg (row 4 (yv (replF t f))).toArray) ?_ rfl ⟨rfl, below_setCells _ (by omega) _ _ _ hB⟩
      have hl := run_loadVar_mid (P := Tryz.prog) (wr.setCells (w.heap.size + 1) 0 (row 4 (yv (replF t f)))) (w.heap.size + 1) 0 129 (row 4 (yv (replF t f))) _ (HR0.out.cells (g' := yv (replF t f))).range Tryz.underlying129 rfl (by rw [row_length]; exact info63)
      simp [results, Tryz.results116, Act.put, asAddr, hl]
end Go.Proofs.YtfpfgbhdehbggaaGreatDoor
namespace Go.Proofs.YtfpfgbhdehbggaaGreatDoor
set_option maxRecDepth 20000
open Go.RowKit Go.BigFrame
def wordAt (k : Nat) (bx : Nat → BitVec 8) (p : Nat) (S : Nat → BitVec 8) (c : BitVec 8) (i : Nat) : BitVec 8 :=
  if p % k = 0 then (if i = 0 then xB (bx (S (4 * (p - 1) + 1)).toNat) c else bx (S (4 * (p - 1) + (i + 1) % 4)).toNat)
  else if k = 8 ∧ p % 8 = 4 then bx (S (4 * (p - 1) + i)).toNat else S (4 * (p - 1) + i)
def partS (k p : Nat) (wd S : Nat → BitVec 8) (i j : Nat) : BitVec 8 := if 4 * p ≤ j ∧ j < 4 * p + i then xB (S (j - 4 * k)) (wd (j - 4 * p)) else S j
def wordK (k : Nat) (bx tw key : Nat → BitVec 8) : Nat → (Nat → BitVec 8) × BitVec 8
  | 0 => (fun j => if j < 4 * k then key j else 0#8, 1#8)
  | m + 1 => (partS k (m + k) (wordAt k bx (m + k) (wordK k bx tw key m).1 (wordK k bx tw key m).2) (wordK k bx tw key m).1 4, if (m + k) % k = 0 then tw (wordK k bx tw key m).2.toNat else (wordK k bx tw key m).2)
def wordsF (k : Nat) (bx tw key : Nat → BitVec 8) : Nat → BitVec 8 := (wordK k bx tw key (3 * k + 28)).1
def KeyAt (a : Addr) (n : Nat) (key : Nat → BitVec 8) (w : World) : Prop := (∀ j, j < n → w.cell? (a.add j) = some (.int .u8 ((key j).toNat : Int))) ∧ a.block < w.heap.size
theorem KeyAt.below {a : Addr} {n B : Nat} {key : Nat → BitVec 8} {w X : World} (h : KeyAt a n key w) (hb : a.block < B) (hB : Below B w X) : KeyAt a n key X :=
  ⟨fun j hj => (hB.cell (p := a.add j) (by unfold Addr.add; split <;> exact hb)).trans (h.1 j hj), Nat.lt_of_lt_of_le h.2 hB.size⟩
theorem KeyAt.carry {a : Addr} {n : Nat} {key : Nat → BitVec 8} {w X : World} (h : KeyAt a n key w) (hB : Below w.heap.size w X) : KeyAt a n key X := h.below h.2 hB
theorem zero73 (w : World) : Sem.run Tryz.prog (zeroValue 152) w = .ok (.agg (row 240 (yv fun _ => 0#8)).toArray) w := by kernel_rfl
theorem info73 : (Tryz.prog.info? 152).map (·.size) = some 240 := by kernel_rfl
theorem info5A : (Tryz.prog.info? 5).map (·.size) = some 1 := by kernel_rfl
theorem zero63' (w : World) : Sem.run Tryz.prog (zeroValue 129) w = .ok (.agg (row 4 (yv fun _ => 0#8)).toArray) w := by kernel_rfl
def WordsAt (B : Nat) (w : World) (S : Nat → BitVec 8) (X : World) : Prop := RowAt B 240 (yv fun _ => 0#8) X ∧ RowAt (B + 1) 240 (yv S) X ∧ Below B w X
theorem WordsAt.ext {B : Nat} {w X Y : World} {S : Nat → BitVec 8} (h : WordsAt B w S X) (hB : w.heap.size = B) (k : Ext X Y) : WordsAt B w S Y :=
  ⟨h.1.carry k, h.2.1.carry k, Below.trans h.2.2 (Below.mono k (by have := Below.size h.2.2; omega))⟩
theorem WordsAt.draw {B : Nat} {w X Y : World} {S : Nat → BitVec 8} (h : WordsAt B w S X) (hB : w.heap.size = B) (k : Ext X.drew Y) : WordsAt B w S Y :=
  WordsAt.ext (X := X.drew) ⟨h.1.drew, h.2.1.drew, h.2.2.drew⟩ hB k
theorem WordsAt.other {B : Nat} {w X : World} {S : Nat → BitVec 8} (h : WordsAt B w S X) (b : Nat) (hb : B + 2 ≤ b) (vs : List Value) (o : Nat) : WordsAt B w S (X.setCells b o vs) :=
  ⟨h.1.cellsOther (by omega) _ _, h.2.1.cellsOther (by omega) _ _, below_setCells _ (by omega) _ _ _ h.2.2⟩
theorem WordsAt.otherCell {B : Nat} {w X : World} {S : Nat → BitVec 8} (h : WordsAt B w S X) (b i : Nat) (hb : B + 2 ≤ b) (v : Value) : WordsAt B w S (X.setCell ⟨b, i, none⟩ v) :=
  ⟨h.1.other _ _ (by show b ≠ B; omega), h.2.1.other _ _ (by show b ≠ B + 1; omega), h.2.2.setCell (by show B ≤ b; omega) _⟩
theorem WordsAt.copy {B : Nat} {w X : World} (key : Nat → BitVec 8) (n k : Nat) (hk : k ≤ 8) (hn : n < k) (h : WordsAt B w (fun j => if j < 4 * n then key j else 0#8) X) : WordsAt B w (fun j => if j < 4 * (n + 1) then key j else 0#8) (X.setCells (B + 1) (n * 4) (row 4 (yv fun j => key (4 * n + j)))) := by
  rw [Nat.mul_comm n 4]
  refine ⟨h.1.cellsOther (by omega) _ _, (h.2.1.part (4 * n) 4 _ (by omega)).congr fun j hj => ?_, below_setCells _ (by omega) _ _ _ h.2.2⟩
  by_cases hin : 4 * n ≤ j ∧ j < 4 * n + 4
  · rw [if_pos hin]
    simp only [yv]
    rw [if_pos (by omega), show 4 * n + (j - 4 * n) = j by omega]
  · rw [if_neg hin]
    simp only [yv, show (j < 4 * (n + 1)) ↔ (j < 4 * n) by omega]
theorem WordsAt.byte {B : Nat} {w X : World} {k p : Nat} {wd S : Nat → BitVec 8} {i : Nat} (h : WordsAt B w (partS k p wd S i) X) : WordsAt B w (partS k p wd S (i + 1)) (X.setCell ⟨B + 1, 4 * p + i, none⟩ (.int .u8 ((xB (S (4 * p + i - 4 * k)) (wd i)).toNat : Int))) := by
  refine ⟨h.1.other _ _ (by simp), (h.2.1.set (4 * p + i) _).congr fun j _ => ?_, h.2.2.setCell (by simp) _⟩
  by_cases e : j = 4 * p + i
  · subst e
    rw [if_pos rfl]
    simp only [yv, partS, if_pos (show 4 * p ≤ 4 * p + i ∧ 4 * p + i < 4 * p + (i + 1) by omega), show 4 * p + i - 4 * p = i by omega]
  · rw [if_neg e]
    simp only [yv, partS, show (4 * p ≤ j ∧ j < 4 * p + (i + 1)) ↔ (4 * p ≤ j ∧ j < 4 * p + i) by omega]
theorem partS_zero (k p : Nat) (wd S : Nat → BitVec 8) : partS k p wd S 0 = S := by
  funext j
  unfold partS
  rw [if_neg (by omega)]
theorem partS_low (k p : Nat) (wd S : Nat → BitVec 8) (i j : Nat) (h : j < 4 * p) : partS k p wd S i j = S j := by
  unfold partS
  rw [if_neg (by omega)]
end Go.Proofs.YtfpfgbhdehbggaaGreatDoor
