/-
  Plain facts on inverses and boxes of bytes. The cipher's small functions on blocks: what they answer, for every block, in every world, of which nothing that was there turns.
-/
import Derived.Test.YtgjabfjkokpkiaaDoorQ26
import Derived.OpenShut
import Derived.Test.YtgjabfjkokpkiaaDoorQ27
import Derived.Test.YtgjabfjkokpkiaaDoorQ1
import Derived.Test.YtgjabfjkokpkiaaDoorQ3
namespace Go.Proofs.YtgjabfjkokpkiaaDoor
set_option maxRecDepth 20000
open Go.RowKit
theorem unturn_turn : ∀ b : BitVec 8, unturnB (turnB b) = b := by decide +kernel
theorem inv_ok : ∀ b : BitVec 8, mB b (iB b) = if b = 0#8 then 0#8 else 1#8 := by decide +kernel
theorem inv_zero : iB 0#8 = 0#8 := by decide +kernel
theorem mB_comm (a b : BitVec 8) : mB a b = mB b a := tK_comm _ _ _
theorem mB_assoc (a b c : BitVec 8) : mB (mB a b) c = mB a (mB b c) := tK_assoc _ _ _ _
theorem mB_one (a : BitVec 8) : mB a 1#8 = a := tK_unit _ _
theorem mB_zero (a : BitVec 8) : mB a 0#8 = 0#8 := tK_zero_right _ _ _
theorem inv_inv (a : BitVec 8) : iB (iB a) = a := by
  by_cases h : a = 0#8
  · subst h; rw [inv_zero, inv_zero]
  · have h1 := inv_ok a
    rw [if_neg h] at h1
    have h2 : iB a ≠ 0#8 := by
      intro h0; rw [h0, mB_zero] at h1; exact absurd h1 (by decide)
    have h3 := inv_ok (iB a)
    rw [if_neg h2] at h3
    have h4 := mB_assoc a (iB a) (iB (iB a))
    rw [h1, h3, mB_one, mB_comm, mB_one] at h4
    exact h4
theorem unbox_box (a : BitVec 8) : unboxB (boxB a) = a := by
  unfold unboxB boxB
  rw [unturn_turn, inv_inv]
end Go.Proofs.YtgjabfjkokpkiaaDoor
namespace Go.Proofs.YtgjabfjkokpkiaaDoor
set_option maxRecDepth 20000
open Go.RowKit
def Y16 : Array Value := (row 16 (yv fun _ => 0#8)).toArray
theorem zero32 (w : World) : Sem.run Tryd.prog (zeroValue 35) w = .ok (.agg Y16) w := by kernel_rfl
theorem info32 : (Tryd.prog.info? 35).map (·.size) = some 16 := by kernel_rfl
theorem Y16_get (j : Nat) (hj : j < 16) (f : Nat → BitVec 8) (hf : f j = 0#8) : Y16[j]? = some (yv f j) := by
  unfold Y16
  rw [List.getElem?_toArray, row_get 16 _ j hj]
  simp [yv, hf]
def xB (a b : BitVec 8) : BitVec 8 := a ^^^ b
theorem xB_fact (a b : BitVec 8) : bits .xor .u8 (a.toNat : Int) (b.toNat : Int) = ((xB a b).toNat : Int) := xor8 a b
def addF (f k : Nat → BitVec 8) (j : Nat) : BitVec 8 := xB (f j) (k j)
def AddAt (B : Nat) (w : World) (f k : Nat → BitVec 8) (i : Nat) (X : World) : Prop :=
  RowAt B 16 (yv fun j => if j < i then addF f k j else f j) X ∧ RowAt (B + 1) 16 (yv k) X ∧ RowAt (B + 1 + 1) 16 (yv fun _ => 0#8) X ∧ Below B w X
theorem AddAt.step {B : Nat} {w X : World} {f k : Nat → BitVec 8} {i : Nat} (h : AddAt B w f k i X) : AddAt B w f k (i + 1) (X.setCell ⟨B, i, none⟩ (.int .u8 ((addF f k i).toNat : Int))).drew := by
  obtain ⟨h1, h2, h3, h4⟩ := h
  refine ⟨((h1.set i _).congr ?_).drew, (h2.other _ _ (by simp)).drew, (h3.other _ _ (by simp; omega)).drew, (h4.setCell (by simp) _).drew⟩
  intro j _
  by_cases e : j = i
  · subst e; simp [yv]
  · have : (j < i + 1) ↔ (j < i) := by omega
    simp [yv, e, this]
set_option maxRecDepth 20000 in
set_option maxHeartbeats 1000000 in
theorem add_any (f k : Nat → BitVec 8) (w : World) :
    Calls Tryd.prog 79 #[.agg (row 16 (yv f)).toArray, .agg (row 16 (yv k)).toArray] w fun e w' => e = .returned (.agg (row 16 (yv (addF f k))).toArray) ∧ Below w.heap.size w w' := by
  have hz := zero32
  go_enter Tryd.func79, Tryd.ntmps79
  go_wp2
  go_loopw [6] (fun i wr => ∃ n : Nat, n ≤ 16 ∧ i = .int .i64 n ∧ AddAt w.heap.size w f k n wr) (fun i _ => 16 - (intOf i).toNat)
  case atStart =>
    refine ⟨0, by omega, rfl, ?_, ?_, ?_, ?_⟩
    · exact (((RowAt.new w 16 (yv f) 35).alloc _).alloc _).congr (fun j _ => by simp [yv])
    · have := (RowAt.new (w.alloc (Obj.cells (row 16 (yv f)).toArray 35)) 16 (yv k) 35).alloc (Obj.cells Y16 35)
      simpa using this
    · have := RowAt.newOf ((w.alloc (Obj.cells (row 16 (yv f)).toArray 35)).alloc (Obj.cells (row 16 (yv k)).toArray 35)) 16 (yv fun _ => 0#8) 35 Y16 (fun j hj => Y16_get j hj _ rfl)
      simpa using this
    · exact (((Below.refl _ _).alloc (Nat.le_refl _) _).alloc (by simp) _).alloc (by simp; omega) _
  case round =>
    obtain ⟨n, hn, rfl, hT⟩ := hrel
    by_cases hlt : n < 16
    · have HT := hideit hT
      obtain ⟨h1, h2, _, _⟩ := hT
      have e1 := h1.1 n hlt
      have e2 := h2.1 n hlt
      have g1 := h1.2.1 n hlt
      simp only [yv, if_neg (Nat.lt_irrefl n)] at e1 e2
      clear h1 h2
      have b1 := (f n).isLt
      have b2 := (k n).isLt
      have o1 : bits .xor .u8 ((f n).toNat : Int) ((k n).toNat : Int) = ((addF f k n).toNat : Int) := xB_fact _ _
      have i0 : (0 : Int) ≤ (n : Int) := by omega
      have i1 : (n : Int) < 16 := by omega
      go_wp2
      go_region
      all_goals (try go_wp2)
      go_roundw
      case rel =>
        first | exact ⟨(n + 1 : Nat), by omega, by go_num, HT.out.step⟩ | ((repeat apply Exists.intro); exact ⟨⟨n + 1, by omega, by go_num, HT.out.step⟩, rfl⟩)
      case measure => simp [intOf]; omega
    · obtain rfl : n = 16 := by omega
      obtain ⟨h1, _, h3, hB⟩ := hT
      have HR := hideit (h1.congr (g' := yv (addF f k)) (fun j hj => by simp [yv, hj]))
      have HR0 := hideit h3
      clear h1 h3
      go_wp2_with (first | (refine wpList_load_mid rfl 35 (.tmp 2) rfl _ 0 rfl (row 16 (yv (addF f k))) _ HR.out.range Tryd.underlying35 rfl (by rw [row_length]; exact info32) ?_) | (refine wpList_store_mid rfl 35 (.tmp 4) (.tmp 18) rfl _ 0 (row 16 (yv (addF f k))).toArray rfl rfl (by rw [row_size]; exact HR0.out.there) (by rw [row_size]; exact info32) (row_one fun _ _ => rfl) ?_))
      refine bodyPost_ret (v := .agg (row 16 (yv (addF f k))).toArray) ?_ rfl ⟨rfl, below_setCells _ (by omega) _ _ _ hB⟩
      have hl := run_loadVar_mid (P := Tryd.prog) (wr.setCells (w.heap.size + 1 + 1) 0 (row 16 (yv (addF f k)))) (w.heap.size + 1 + 1) 0 35 (row 16 (yv (addF f k))) _ (HR0.out.cells (g' := yv (addF f k))).range Tryd.underlying35 rfl (by rw [row_length]; exact info32)
      simp [results, Tryd.results79, Act.put, asAddr, hl]
def TabAt (c off : Nat) (t : Nat → BitVec 8) (w : World) : Prop := (∀ j, j < 256 → w.cell? ⟨c, off + j, none⟩ = some (.int .u8 ((t j).toNat : Int))) ∧ c < w.heap.size
theorem TabAt.carry {c off : Nat} {t : Nat → BitVec 8} {X w' : World} (h : TabAt c off t X) (hB : Below X.heap.size X w') : TabAt c off t w' :=
  ⟨fun j hj => (hB.cell (p := ⟨c, off + j, none⟩) h.2).trans (h.1 j hj), Nat.lt_of_lt_of_le h.2 hB.size⟩
theorem TabAt.below {c off : Nat} {t : Nat → BitVec 8} {B : Nat} {w X : World} (h : TabAt c off t w) (hc : c < B) (hB : Below B w X) : TabAt c off t X :=
  ⟨fun j hj => (hB.cell (p := ⟨c, off + j, none⟩) hc).trans (h.1 j hj), Nat.lt_of_lt_of_le h.2 hB.size⟩
def replF (t f : Nat → BitVec 8) (j : Nat) : BitVec 8 := t (f j).toNat
def ReplAt (B : Nat) (w : World) (t f : Nat → BitVec 8) (i : Nat) (X : World) : Prop :=
  RowAt B 16 (yv fun j => if j < i then replF t f j else f j) X ∧ RowAt (B + 1) 16 (yv fun _ => 0#8) X ∧ Below B w X
theorem ReplAt.step {B : Nat} {w X : World} {t f : Nat → BitVec 8} {i : Nat} (h : ReplAt B w t f i X) : ReplAt B w t f (i + 1) (X.setCell ⟨B, i, none⟩ (.int .u8 ((replF t f i).toNat : Int))).drew := by
  obtain ⟨h1, h3, h4⟩ := h
  refine ⟨((h1.set i _).congr ?_).drew, (h3.other _ _ (by simp)).drew, (h4.setCell (by simp) _).drew⟩
  intro j _
  by_cases e : j = i
  · subst e; simp [yv]
  · have : (j < i + 1) ↔ (j < i) := by omega
    simp [yv, e, this]
set_option maxRecDepth 20000 in
set_option maxHeartbeats 1000000 in
theorem repl_any (f t : Nat → BitVec 8) (c off : Nat) (w : World) (ht : TabAt c off t w) :
    Calls Tryd.prog 82 #[.agg (row 16 (yv f)).toArray, .pointer (some ⟨c, off, none⟩)] w fun e w' => e = .returned (.agg (row 16 (yv (replF t f))).toArray) ∧ Below w.heap.size w w' := by
  have hz := zero32
  have HT0 := hideit ht
  clear ht
  go_enter Tryd.func82, Tryd.ntmps82
  go_wp2
  go_loopw [6] (fun i wr => ∃ n : Nat, n ≤ 16 ∧ i = .int .i64 n ∧ ReplAt w.heap.size w t f n wr) (fun i _ => 16 - (intOf i).toNat)
  case atStart =>
    refine ⟨0, by omega, rfl, ?_, ?_, ?_⟩
    · exact ((RowAt.new w 16 (yv f) 35).alloc _).congr (fun j _ => by simp [yv])
    · have := RowAt.newOf (w.alloc (Obj.cells (row 16 (yv f)).toArray 35)) 16 (yv fun _ => 0#8) 35 Y16 (fun j hj => Y16_get j hj _ rfl)
      simpa using this
    · exact ((Below.refl _ _).alloc (Nat.le_refl _) _).alloc (by simp) _
  case round =>
    obtain ⟨n, hn, rfl, hT⟩ := hrel
    by_cases hlt : n < 16
    · have HT := hideit hT
      obtain ⟨h1, _, hB⟩ := hT
      have e1 := h1.1 n hlt
      have g1 := h1.2.1 n hlt
      have b1 := (f n).isLt
      have e2 := (HT0.out.below HT0.out.2 hB).1 (f n).toNat b1
      simp only [yv, if_neg (Nat.lt_irrefl n)] at e1
      have e2' : wr.cell? ⟨c, off + (f n).toNat, none⟩ = some (.int .u8 ((replF t f n).toNat : Int)) := e2
      clear h1 hB e2
      have i0 : (0 : Int) ≤ (n : Int) := by omega
      have i1 : (n : Int) < 16 := by omega
      have i2 : ((f n).toNat : Int) < 256 := by omega
      go_wp2
      go_region
      all_goals (try go_wp2)
      go_roundw
      case rel =>
        first | exact ⟨(n + 1 : Nat), by omega, by go_num, HT.out.step⟩ | ((repeat apply Exists.intro); exact ⟨⟨n + 1, by omega, by go_num, HT.out.step⟩, rfl⟩)
      case measure => simp [intOf]; omega
    · obtain rfl : n = 16 := by omega
      obtain ⟨h1, h3, hB⟩ := hT
      have HR := hideit (h1.congr (g' := yv (replF t f)) (fun j hj => by simp [yv, hj]))
      have HR0 := hideit h3
      clear h1 h3
      go_wp2_with (first | (refine wpList_load_mid rfl 35 (.tmp 2) rfl _ 0 rfl (row 16 (yv (replF t f))) _ HR.out.range Tryd.underlying35 rfl (by rw [row_length]; exact info32) ?_) | (refine wpList_store_mid rfl 35 (.tmp 4) (.tmp 19) rfl _ 0 (row 16 (yv (replF t f))).toArray rfl rfl (by rw [row_size]; exact HR0.out.there) (by rw [row_size]; exact info32) (row_one fun _ _ => rfl) ?_))
      refine bodyPost_ret (v := .agg (row 16 (yv (replF t f))).toArray) ?_ rfl ⟨rfl, below_setCells _ (by omega) _ _ _ hB⟩
      have hl := run_loadVar_mid (P := Tryd.prog) (wr.setCells (w.heap.size + 1) 0 (row 16 (yv (replF t f)))) (w.heap.size + 1) 0 35 (row 16 (yv (replF t f))) _ (HR0.out.cells (g' := yv (replF t f))).range Tryd.underlying35 rfl (by rw [row_length]; exact info32)
      simp [results, Tryd.results82, Act.put, asAddr, hl]
end Go.Proofs.YtgjabfjkokpkiaaDoor
