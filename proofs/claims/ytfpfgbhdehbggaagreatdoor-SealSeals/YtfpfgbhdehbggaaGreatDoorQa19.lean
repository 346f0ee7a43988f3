/-
  Plain facts on inverses and boxes of bytes. The cipher's small functions on blocks: what they answer, for every block, in every world, of which nothing that was there turns. What Bytes and Of answer: for every tweak, for every sixteen bytes, in every world, of which nothing that was there turns.
-/
import Derived.Test.YtfpfgbhdehbggaaGreatDoorQa17
import Derived.OpenShut
import Derived.Test.YtfpfgbhdehbggaaGreatDoorQa18
import Derived.Test.YtfpfgbhdehbggaaGreatDoorQa1
import Derived.Test.YtfpfgbhdehbggaaGreatDoorQa2
namespace Go.Proofs.YtfpfgbhdehbggaaGreatDoor
set_option maxRecDepth 20000
open Go.RowKit
theorem unturn_turn : ∀ b : BitVec 8, unturnB (turnB b) = b := by decide +kernel
theorem inv_ok : ∀ b : BitVec 8, mB b (iB b) = if b = 0#8 then 0#8 else 1#8 := by decide +kernel
theorem inv_zero : iB 0#8 = 0#8 := by decide +kernel
theorem mB_comm (a b : BitVec 8) : mB a b = mB b a := tK_comm _ _ _
theorem mB_assoc (a b c : BitVec 8) : mB (mB a b) c = mB a (mB b c) := tK_assoc _ _ _ _
theorem mB_one (a : BitVec 8) : mB a 1#8 = a := tK_unit _ _
theorem mB_zero (a : BitVec 8) : mB a 0#8 = 0#8 := tK_zero_right _ _ _
theorem inv_inv (a : BitVec 8) : iB (iB a) = a := by
  by_cases h : a = 0#8
  · subst h; rw [inv_zero, inv_zero]
  · have h1 := inv_ok a
    rw [if_neg h] at h1
    have h2 : iB a ≠ 0#8 := by
      intro h0; rw [h0, mB_zero] at h1; exact absurd h1 (by decide)
    have h3 := inv_ok (iB a)
    rw [if_neg h2] at h3
    have h4 := mB_assoc a (iB a) (iB (iB a))
    rw [h1, h3, mB_one, mB_comm, mB_one] at h4
    exact h4
theorem unbox_box (a : BitVec 8) : unboxB (boxB a) = a := by
  unfold unboxB boxB
  rw [unturn_turn, inv_inv]
end Go.Proofs.YtfpfgbhdehbggaaGreatDoor
namespace Go.Proofs.YtfpfgbhdehbggaaGreatDoor
set_option maxRecDepth 20000
open Go.RowKit
def Y16 : Array Value := (row 16 (yv fun _ => 0#8)).toArray
theorem zero32 (w : World) : Sem.run Tryz.prog (zeroValue 52) w = .ok (.agg Y16) w := by kernel_rfl
theorem info32 : (Tryz.prog.info? 52).map (·.size) = some 16 := by kernel_rfl
theorem Y16_get (j : Nat) (hj : j < 16) (f : Nat → BitVec 8) (hf : f j = 0#8) : Y16[j]? = some (yv f j) := by
  unfold Y16
  rw [List.getElem?_toArray, row_get 16 _ j hj]
  simp [yv, hf]
def xB (a b : BitVec 8) : BitVec 8 := a ^^^ b
theorem xB_fact (a b : BitVec 8) : bits .xor .u8 (a.toNat : Int) (b.toNat : Int) = ((xB a b).toNat : Int) := xor8 a b
def addF (f k : Nat → BitVec 8) (j : Nat) : BitVec 8 := xB (f j) (k j)
def AddAt (B : Nat) (w : World) (f k : Nat → BitVec 8) (i : Nat) (X : World) : Prop :=
  RowAt B 16 (yv fun j => if j < i then addF f k j else f j) X ∧ RowAt (B + 1) 16 (yv k) X ∧ RowAt (B + 1 + 1) 16 (yv fun _ => 0#8) X ∧ Below B w X
theorem AddAt.step {B : Nat} {w X : World} {f k : Nat → BitVec 8} {i : Nat} (h : AddAt B w f k i X) : AddAt B w f k (i + 1) (X.setCell ⟨B, i, none⟩ (.int .u8 ((addF f k i).toNat : Int))).drew := by
  obtain ⟨h1, h2, h3, h4⟩ := h
  refine ⟨((h1.set i _).congr ?_).drew, (h2.other _ _ (by simp)).drew, (h3.other _ _ (by simp; omega)).drew, (h4.setCell (by simp) _).drew⟩
  intro j _
  by_cases e : j = i
  · subst e; simp [yv]
  · have : (j < i + 1) ↔ (j < i) := by omega
    simp [yv, e, this]
set_option maxRecDepth 20000 in
set_option maxHeartbeats 1000000 in
theorem add_any (f k : Nat → BitVec 8) (w : World) :
    Calls Tryz.prog 62 #[.agg (row 16 (yv f)).toArray, .agg (row 16 (yv k)).toArray] w fun e w' => e = .returned (.agg (row 16 (yv (addF f k))).toArray) ∧ Below w.heap.size w w' := by
  have hz := zero32
  go_enter Tryz.func62, Tryz.ntmps62
  go_wp2
  go_loopw [6] (fun i wr => ∃ n : Nat, n ≤ 16 ∧ i = .int .i64 n ∧ AddAt w.heap.size w f k n wr) (fun i _ => 16 - (intOf i).toNat)
  case atStart =>
    refine ⟨0, by omega, rfl, ?_, ?_, ?_, ?_⟩
    · exact (((RowAt.new w 16 (yv f) 52).alloc _).alloc _).congr (fun j _ => by simp [yv])
    · have := (RowAt.new (w.alloc (Obj.cells (row 16 (yv f)).toArray 52)) 16 (yv k) 52).alloc (Obj.cells Y16 52)
      simpa using this
    · have := RowAt.newOf ((w.alloc (Obj.cells (row 16 (yv f)).toArray 52)).alloc (Obj.cells (row 16 (yv k)).toArray 52)) 16 (yv fun _ => 0#8) 52 Y16 (fun j hj => Y16_get j hj _ rfl)
      simpa using this
    · exact (((Below.refl _ _).alloc (Nat.le_refl _) _).alloc (by simp) _).alloc (by simp; omega) _
  case round =>
    obtain ⟨n, hn, rfl, hT⟩ := hrel
    by_cases hlt : n < 16
    · have HT := hideit hT
      obtain ⟨h1, h2, _, _⟩ := hT
      have e1 := h1.1 n hlt
      have e2 := h2.1 n hlt
      have g1 := h1.2.1 n hlt
      simp only [yv, if_neg (Nat.lt_irrefl n)] at e1 e2
      clear h1 h2
      have b1 := (f n).isLt
      have b2 := (k n).isLt
      have o1 : bits .xor .u8 ((f n).toNat : Int) ((k n).toNat : Int) = ((addF f k n).toNat : Int) := xB_fact _ _
      have i0 : (0 : Int) ≤ (n : Int) := by omega
      have i1 : (n : Int) < 16 := by omega
      go_wp2
      go_region
      all_goals (try go_wp2)
      go_roundw
      case rel =>
        first | exact ⟨(n + 1 : Nat), by omega, by go_num, HT.out.step⟩ | ((repeat apply Exists.intro); exact ⟨⟨n + 1, by omega, by go_num, HT.out.step⟩, rfl⟩)
      case measure => simp [intOf]; omega
    · obtain rfl : n = 16 := by omega
      obtain ⟨h1, _, h3, hB⟩ := hT
      have HR := hideit (h1.congr (g' := yv (addF f k)) (fun j hj => by simp [yv, hj]))
      have HR0 := hideit h3
      clear h1 h3
      go_wp2_with (first | (refine wpList_load_mid rfl 52 (.tmp 2) rfl _ 0 rfl (row 16 (yv (addF f k))) _ HR.out.range Tryz.underlying52 rfl (by rw [row_length]; exact info32) ?_) | (refine wpList_store_mid rfl 52 (.tmp 4) (.tmp 18) rfl _ 0 (row 16 (yv (addF f k))).toArray rfl rfl (by rw [row_size]; exact HR0.out.there) (by rw [row_size]; exact info32) (row_one fun _ _ => rfl) ?_))
      refine bodyPost_ret (v := .agg (row 16 (yv (addF f k))).toArray) ?_ rfl ⟨rfl, below_setCells _ (by omega) _ _ _ hB⟩
      have hl := run_loadVar_mid (P := Tryz.prog) (wr.setCells (w.heap.size + 1 + 1) 0 (row 16 (yv (addF f k)))) (w.heap.size + 1 + 1) 0 52 (row 16 (yv (addF f k))) _ (HR0.out.cells (g' := yv (addF f k))).range Tryz.underlying52 rfl (by rw [row_length]; exact info32)
      simp [results, Tryz.results62, Act.put, asAddr, hl]
def TabAt (c off : Nat) (t : Nat → BitVec 8) (w : World) : Prop := (∀ j, j < 256 → w.cell? ⟨c, off + j, none⟩ = some (.int .u8 ((t j).toNat : Int))) ∧ c < w.heap.size
theorem TabAt.carry {c off : Nat} {t : Nat → BitVec 8} {X w' : World} (h : TabAt c off t X) (hB : Below X.heap.size X w') : TabAt c off t w' :=
  ⟨fun j hj => (hB.cell (p := ⟨c, off + j, none⟩) h.2).trans (h.1 j hj), Nat.lt_of_lt_of_le h.2 hB.size⟩
theorem TabAt.below {c off : Nat} {t : Nat → BitVec 8} {B : Nat} {w X : World} (h : TabAt c off t w) (hc : c < B) (hB : Below B w X) : TabAt c off t X :=
  ⟨fun j hj => (hB.cell (p := ⟨c, off + j, none⟩) hc).trans (h.1 j hj), Nat.lt_of_lt_of_le h.2 hB.size⟩
def replF (t f : Nat → BitVec 8) (j : Nat) : BitVec 8 := t (f j).toNat
def ReplAt (B : Nat) (w : World) (t f : Nat → BitVec 8) (i : Nat) (X : World) : Prop :=
  RowAt B 16 (yv fun j => if j < i then replF t f j else f j) X ∧ RowAt (B + 1) 16 (yv fun _ => 0#8) X ∧ Below B w X
theorem ReplAt.step {B : Nat} {w X : World} {t f : Nat → BitVec 8} {i : Nat} (h : ReplAt B w t f i X) : ReplAt B w t f (i + 1) (X.setCell ⟨B, i, none⟩ (.int .u8 ((replF t f i).toNat : Int))).drew := by
  obtain ⟨h1, h3, h4⟩ := h
  refine ⟨((h1.set i _).congr ?_).drew, (h3.other _ _ (by simp)).drew, (h4.setCell (by simp) _).drew⟩
  intro j _
  by_cases e : j = i
  · subst e; simp [yv]
  · have : (j < i + 1) ↔ (j < i) := by omega
    simp [yv, e, this]
set_option maxRecDepth 20000 in
set_option maxHeartbeats 1000000 in
theorem repl_any (f t : Nat → BitVec 8) (c off : Nat) (w : World) (ht : TabAt c off t w) :
    Calls Tryz.prog 65 #[.agg (row 16 (yv f)).toArray, .pointer (some ⟨c, off, none⟩)] w fun e w' => e = .returned (.agg (row 16 (yv (replF t f))).toArray) ∧ Below w.heap.size w w' := by
  have hz := zero32
  have HT0 := hideit ht
  clear ht
  go_enter Tryz.func65, Tryz.ntmps65
  go_wp2
  go_loopw [6] (fun i wr => ∃ n : Nat, n ≤ 16 ∧ i = .int .i64 n ∧ ReplAt w.heap.size w t f n wr) (fun i _ => 16 - (intOf i).toNat)
  case atStart =>
    refine ⟨0, by omega, rfl, ?_, ?_, ?_⟩
    · exact ((RowAt.new w 16 (yv f) 52).alloc _).congr (fun j _ => by simp [yv])
    · have := RowAt.newOf (w.alloc (Obj.cells (row 16 (yv f)).toArray 52)) 16 (yv fun _ => 0#8) 52 Y16 (fun j hj => Y16_get j hj _ rfl)
      simpa using this
    · exact ((Below.refl _ _).alloc (Nat.le_refl _) _).alloc (by simp) _
  case round =>
    obtain ⟨n, hn, rfl, hT⟩ := hrel
    by_cases hlt : n < 16
    · have HT := hideit hT
      obtain ⟨h1, _, hB⟩ := hT
      have e1 := h1.1 n hlt
      have g1 := h1.2.1 n hlt
      have b1 := (f n).isLt
      have e2 := (HT0.out.below HT0.out.2 hB).1 (f n).toNat b1
      simp only [yv, if_neg (Nat.lt_irrefl n)] at e1
      have e2' : wr.cell? ⟨c, off + (f n).toNat, none⟩ = some (.int .u8 ((replF t f n).toNat : Int)) := e2
      clear h1 hB e2
      have i0 : (0 : Int) ≤ (n : Int) := by omega
      have i1 : (n : Int) < 16 := by omega
      have i2 : ((f n).toNat : Int) < 256 := by omega
      go_wp2
      go_region
      all_goals (try go_wp2)
      go_roundw
      case rel =>
        first | exact ⟨(n + 1 : Nat), by omega, by go_num, HT.out.step⟩ | ((repeat apply Exists.intro); exact ⟨⟨n + 1, by omega, by go_num, HT.out.step⟩, rfl⟩)
      case measure => simp [intOf]; omega
    · obtain rfl : n = 16 := by omega
      obtain ⟨h1, h3, hB⟩ := hT
      have HR := hideit (h1.congr (g' := yv (replF t f)) (fun j hj => by simp [yv, hj]))
      have HR0 := hideit h3
      clear h1 h3
      go_wp2_with (first | (refine wpList_load_mid rfl 52 (.tmp 2) rfl _ 0 rfl (row 16 (yv (replF t f))) _ HR.out.range Tryz.underlying52 rfl (by rw [row_length]; exact info32) ?_) | (refine wpList_store_mid rfl 52 (.tmp 4) (.tmp 19) rfl _ 0 (row 16 (yv (replF t f))).toArray rfl rfl (by rw [row_size]; exact HR0.out.there) (by rw [row_size]; exact info32) (row_one fun _ _ => rfl) ?_))
      refine bodyPost_ret (v := .agg (row 16 (yv (replF t f))).toArray) ?_ rfl ⟨rfl, below_setCells _ (by omega) _ _ _ hB⟩
      have hl := run_loadVar_mid (P := Tryz.prog) (wr.setCells (w.heap.size + 1) 0 (row 16 (yv (replF t f)))) (w.heap.size + 1) 0 52 (row 16 (yv (replF t f))) _ (HR0.out.cells (g' := yv (replF t f))).range Tryz.underlying52 rfl (by rw [row_length]; exact info32)
      simp [results, Tryz.results65, Act.put, asAddr, hl]
end Go.Proofs.YtfpfgbhdehbggaaGreatDoor
namespace Go.Proofs.YtfpfgbhdehbggaaGreatDoor
set_option maxRecDepth 20000
open Go.RowKit
def byBA (x : BitVec 128) (j : Nat) : BitVec 8 := x.extractLsb' (8 * j) 8
theorem byB_bit (x : BitVec 128) (j i : Nat) (hi : i < 8) : (byBA x j).getLsbD i = x.getLsbD (8 * j + i) := by
  simp [byBA, hi]
theorem cut64A (a : BitVec 64) (k : Nat) : ((a.toNat : Int) / 2 ^ k) % 256 = ((a.extractLsb' k 8).toNat : Int) := by
  rw [int_div_pow, BitVec.extractLsb'_toNat, Nat.shiftRight_eq_div_pow]; simp
theorem byB_lo (x : BitVec 128) (k : Nat) (hk : k < 8) : (((lo x).toNat : Int) / 2 ^ (8 * k)) % 256 = ((byBA x k).toNat : Int) := by
  rw [cut64A]
  congr 2
  apply BitVec.eq_of_getLsbD_eq
  intro i hi
  rw [byB_bit x k i hi]
  simp [hi]
  exact lo_bit x _ (by omega)
theorem byB_hi (x : BitVec 128) (k : Nat) (hk : k < 8) : (((hi x).toNat : Int) / 2 ^ (8 * k)) % 256 = ((byBA x (8 + k)).toNat : Int) := by
  rw [cut64A]
  congr 2
  apply BitVec.eq_of_getLsbD_eq
  intro i hi
  rw [byB_bit x (8 + k) i hi]
  simp [hi]
  rw [hi_bit x _ (by omega)]
  congr 1; omega
def BytesAt (B : Nat) (w : World) (x : BitVec 128) (k : Nat) (wr : World) : Prop :=
  HalfAt B x wr ∧ RowAt (B + 1) 16 (yv fun _ => 0#8) wr ∧ RowAt (B + 1 + 1) 16 (yv fun j => if j < k ∨ (8 ≤ j ∧ j < 8 + k) then byBA x j else 0#8) wr ∧ Below B w wr
theorem BytesAt.step {B : Nat} {w wr : World} {x : BitVec 128} {k : Nat} (hk : k < 8) (h : BytesAt B w x k wr) :
    BytesAt B w x (k + 1) ((wr.setCell ⟨B + 1 + 1, k, none⟩ (.int .u8 ((byBA x k).toNat : Int))).setCell ⟨B + 1 + 1, 8 + k, none⟩ (.int .u8 ((byBA x (8 + k)).toNat : Int))) := by
  obtain ⟨h1, h2, h3, h4⟩ := h
  refine ⟨(h1.other _ _ (by omega)).other _ _ (by omega), (h2.other _ _ (by simp)).other _ _ (by simp), ((h3.set k _).set (8 + k) _).congr ?_, (h4.setCell (by simp; omega) _).setCell (by simp; omega) _⟩
  intro j hj
  by_cases e1 : j = 8 + k
  · subst e1
    have : 8 + k < k + 1 ∨ 8 ≤ 8 + k ∧ 8 + k < 8 + (k + 1) := by omega
    simp only [yv, if_pos this]; simp
  · by_cases e2 : j = k
    · subst e2
      have : j < j + 1 ∨ 8 ≤ j ∧ j < 8 + (j + 1) := by omega
      simp only [yv, if_pos this]; simp
    · have : (j < k + 1 ∨ 8 ≤ j ∧ j < 8 + (k + 1)) ↔ (j < k ∨ 8 ≤ j ∧ j < 8 + k) := by omega
      simp only [yv, this]; simp [e1, e2]
set_option maxRecDepth 100000 in
theorem bytes_any (x : BitVec 128) (w : World) :
    Calls Tryz.prog 60 #[.agg #[.int .u64 ((lo x).toNat : Int), .int .u64 ((hi x).toNat : Int)]] w fun e w' => e = .returned (.agg (row 16 (yv (byBA x))).toArray) ∧ Below w.heap.size w w' := by
  have hz := zero32
  go_enter Tryz.func60, Tryz.ntmps60
  go_wp2
  go_loopw [5] (fun i wr => ∃ k : Nat, k ≤ 8 ∧ i = .int .i64 k ∧ BytesAt w.heap.size w x k wr) (fun i _ => 8 - (intOf i).toNat)
  case atStart =>
    refine ⟨0, by omega, rfl, ⟨?_, ?_, ?_, ?_⟩, ?_, ?_, ?_⟩
    case refine_5 =>
      have := RowAt.newOf (w.alloc (Obj.cells #[Value.int IntKind.u64 ↑(lo x).toNat, Value.int IntKind.u64 ↑(hi x).toNat] 77)) 16 (yv fun _ => 0#8) 52 Y16 (fun j hj => Y16_get j hj _ rfl)
      simpa using this.alloc (Obj.cells Y16 52)
    case refine_6 =>
      have := RowAt.newOf ((w.alloc (Obj.cells #[Value.int IntKind.u64 ↑(lo x).toNat, Value.int IntKind.u64 ↑(hi x).toNat] 77)).alloc (Obj.cells Y16 52)) 16 (yv fun j => if j < 0 ∨ (8 ≤ j ∧ j < 8 + 0) then byBA x j else 0#8) 52 Y16 (fun j hj => Y16_get j hj _ (if_neg (by omega)))
      simpa using this
    case refine_7 => exact (((Below.refl _ _).alloc (Nat.le_refl _) _).alloc (by simp) _).alloc (by simp; omega) _
    all_goals simp [go_sem]
  case round =>
    obtain ⟨k, hk, rfl, hT⟩ := hrel
    by_cases hlt : k < 8
    · have HT := hideit hT
      obtain ⟨⟨c1, c2, _, _⟩, _, hR, _⟩ := hT
      have e1 := hR.1 k (by omega)
      have e2 := hR.1 (8 + k) (by omega)
      have g1 := hR.2.1 k (by omega)
      have g2 := hR.2.1 (8 + k) (by omega)
      have t1 := byB_lo x k hlt
      have t2 := byB_hi x k hlt
      clear hR
      go_wp2
      go_roundw
      case rel =>
        first | exact ⟨(k + 1 : Nat), by omega, by go_num, HT.out.step hlt⟩ | ((repeat apply Exists.intro); exact ⟨⟨k + 1, by omega, by go_num, HT.out.step hlt⟩, rfl⟩)
      case measure => simp [intOf]; omega
    · obtain rfl : k = 8 := by omega
      obtain ⟨_, hR0, hR, hB⟩ := hT
      have HR := hideit (hR.congr (g' := yv (byBA x)) (fun j hj => by
        have : j < 8 ∨ 8 ≤ j ∧ j < 8 + 8 := by omega
        simp only [yv, if_pos this]))
      have HR0 := hideit hR0
      clear hR hR0
      go_wp2_with (first | (refine wpList_load_mid rfl 52 (.tmp 3) rfl _ 0 rfl (row 16 (yv (byBA x))) _ HR.out.range Tryz.underlying52 rfl (by rw [row_length]; exact info32) ?_) | (refine wpList_store_mid rfl 52 (.tmp 2) (.tmp 26) rfl _ 0 (row 16 (yv (byBA x))).toArray rfl rfl (by rw [row_size]; exact HR0.out.there) (by rw [row_size]; exact info32) (row_one fun _ _ => rfl) ?_))
      refine bodyPost_ret (v := .agg (row 16 (yv (byBA x))).toArray) ?_ rfl ⟨rfl, below_setCells _ (by omega) _ _ _ hB⟩
      have hl := run_loadVar_mid (P := Tryz.prog) (wr.setCells (w.heap.size + 1) 0 (row 16 (yv (byBA x)))) (w.heap.size + 1) 0 52 (row 16 (yv (byBA x))) _ (HR0.out.cells (g' := yv (byBA x))).range Tryz.underlying52 rfl (by rw [row_length]; exact info32)
      simp [results, Tryz.results60, Act.put, asAddr, hl]
def wdB (f : Nat → BitVec 8) : Nat → BitVec 64
  | 0 => 0#64
  | k + 1 => wdB f k ||| ((f k).setWidth 64 <<< (8 * k))
theorem wdB_bit (f : Nat → BitVec 8) (k : Nat) (hk : k ≤ 8) (i : Nat) (hi : i < 64) : (wdB f k).getLsbD i = (decide (i < 8 * k) && (f (i / 8)).getLsbD (i % 8)) := by
  induction k with
  | zero => simp [wdB]
  | succ k ih =>
    simp only [wdB]
    rw [BitVec.getLsbD_or, ih (by omega), BitVec.getLsbD_shiftLeft, BitVec.getLsbD_setWidth]
    by_cases h1 : i < 8 * k
    · have h2 : i < 8 * (k + 1) := by omega
      simp [h1, h2, hi]
    · by_cases h2 : i < 8 * (k + 1)
      · have e1 : i / 8 = k := by omega
        have e2 : i % 8 = i - 8 * k := by omega
        have h3 : i - 8 * k < 64 := by omega
        simp [h1, h2, hi, e1, e2, h3]
      · have h3 : (f k).getLsbD (i - 8 * k) = false := BitVec.getLsbD_of_ge _ _ (by omega)
        simp [h1, h2, hi, h3]
def ofK (f : Nat → BitVec 8) (k : Nat) : BitVec 128 := jn (wdB f k) (wdB (fun j => f (8 + j)) k)
def ofB (f : Nat → BitVec 8) : BitVec 128 := ofK f 8
theorem ofB_bit (f : Nat → BitVec 8) (i : Nat) (hi : i < 128) : (ofB f).getLsbD i = (f (i / 8)).getLsbD (i % 8) := by
  unfold ofB ofK
  by_cases h : i < 64
  · rw [← lo_bit _ i h, lo_jn, wdB_bit f 8 (by omega) i h]; simp [h]
  · rw [show i = 64 + (i - 64) from by omega, ← hi_bit _ (i - 64) (by omega), hi_jn, wdB_bit _ 8 (by omega) (i - 64) (by omega)]
    have h1 : i - 64 < 64 := by omega
    have h2 : 8 + (i - 64) / 8 = (64 + (i - 64)) / 8 := by omega
    have h3 : (i - 64) % 8 = (64 + (i - 64)) % 8 := by omega
    simp [h1, h2, h3]
theorem shl8 (y : BitVec 8) (k : Nat) : IntKind.u64.wrap ((y.toNat : Int) * 2 ^ (8 * k)) = ((y.setWidth 64 <<< (8 * k)).toNat : Int) := by
  rw [IntKind.wrap_u64, BitVec.toNat_shiftLeft, BitVec.toNat_setWidth, Nat.shiftLeft_eq]
  have e : ((y.toNat : Int) * 2 ^ (8 * k)) = ((y.toNat * 2 ^ (8 * k) : Nat) : Int) := by simp
  have h : y.toNat % 2 ^ 64 = y.toNat := Nat.mod_eq_of_lt (by have := y.isLt; omega)
  rw [e, h]
  show _ = ((y.toNat * 2 ^ (8 * k) % 18446744073709551616 : Nat) : Int)
  omega
theorem or64v (x y : BitVec 64) : bits .or .u64 (x.toNat : Int) (y.toNat : Int) = ((x ||| y).toNat : Int) := by
  rw [bits_or_u64_nat _ _ x.isLt y.isLt, BitVec.toNat_or]
theorem of_lo (f : Nat → BitVec 8) (k : Nat) : bits .or .u64 ((lo (ofK f k)).toNat : Int) (IntKind.u64.wrap (((f k).toNat : Int) * 2 ^ (8 * k))) = ((lo (ofK f (k + 1))).toNat : Int) := by
  rw [shl8, or64v]; unfold ofK; rw [lo_jn, lo_jn]; rfl
theorem of_hi (f : Nat → BitVec 8) (k : Nat) : bits .or .u64 ((hi (ofK f k)).toNat : Int) (IntKind.u64.wrap (((f (8 + k)).toNat : Int) * 2 ^ (8 * k))) = ((hi (ofK f (k + 1))).toNat : Int) := by
  rw [shl8, or64v]; unfold ofK; rw [hi_jn, hi_jn]; rfl
def OfAt (B : Nat) (w : World) (f : Nat → BitVec 8) (k : Nat) (wr : World) : Prop :=
  RowAt B 16 (yv f) wr ∧ HalfAt (B + 1) 0#128 wr ∧ HalfAt (B + 1 + 1) (ofK f k) wr ∧ Below B w wr
set_option maxRecDepth 100000 in
set_option maxHeartbeats 1000000 in
theorem of_any (f : Nat → BitVec 8) (w : World) :
    Calls Tryz.prog 67 #[.agg (row 16 (yv f)).toArray] w fun e w' => e = .returned (.agg #[.int .u64 ((lo (ofB f)).toNat : Int), .int .u64 ((hi (ofB f)).toNat : Int)]) ∧ Below w.heap.size w w' := by
  go_enter Tryz.func67, Tryz.ntmps67
  go_wp2
  go_loopw [5] (fun i wr => ∃ k : Nat, k ≤ 8 ∧ i = .int .i64 k ∧ OfAt w.heap.size w f k wr) (fun i _ => 8 - (intOf i).toNat)
  case atStart =>
    refine ⟨0, by omega, rfl, ?_, ⟨?_, ?_, ?_, ?_⟩, ⟨?_, ?_, ?_, ?_⟩, ?_⟩
    case refine_1 => exact ((RowAt.new w 16 (yv f) 52).alloc _).alloc _
    case refine_10 => exact (((Below.refl _ _).alloc (Nat.le_refl _) _).alloc (by simp) _).alloc (by simp; omega) _
    all_goals simp [go_sem, ofK, wdB, jn, lo, hi]
  case round =>
    obtain ⟨k, hk, rfl, hT⟩ := hrel
    by_cases hlt : k < 8
    · have HT := hideit hT
      obtain ⟨hR, _, ⟨c1, c2, f1, f2⟩, _⟩ := hT
      have e1 := hR.1 k (by omega)
      have e2 := hR.1 (8 + k) (by omega)
      simp only [yv] at e1 e2
      clear hR
      have b1 := (f k).isLt
      have b2 := (f (8 + k)).isLt
      have o1 := of_lo f k
      have o2 := of_hi f k
      have i0 : (0 : Int) ≤ (k : Int) := by omega
      have i1 : (k : Int) < 8 := by omega
      have i2 : (8 : Int) + (k : Int) < 16 := by omega
      go_wp2
      go_region
      all_goals (try go_wp2)
      go_region
      all_goals (try go_wp2)
      go_roundw
      case rel =>
        obtain ⟨h1, h2, h3, h4⟩ := HT.out
        first | refine ⟨(k + 1 : Nat), by omega, by go_num, ?_⟩ | ((repeat apply Exists.intro); refine ⟨⟨k + 1, by omega, by go_num, ?_⟩, rfl⟩)
        exact ⟨(h1.other _ _ (by simp; omega)).other _ _ (by simp; omega), (h2.other _ _ (by omega)).other _ _ (by omega), h3.set (ofK f (k + 1)), ((h4.setCell (by simp; omega) _).setCell (by simp; omega) _).drew.drew⟩
      case measure => simp [intOf]; omega
    · obtain rfl : k = 8 := by omega
      obtain ⟨_, ⟨c5, c6, f5, f6⟩, ⟨c3, c4, f3, f4⟩, hB⟩ := hT
      go_wp2
      refine bodyPost_ret (v := .agg #[.int .u64 ((lo (ofB f)).toNat : Int), .int .u64 ((hi (ofB f)).toNat : Int)]) (by simp [results, Tryz.results67, go_sem, c5, c6, ofB]) rfl ⟨rfl, ?_⟩
      exact (hB.setCell (by simp) _).setCell (by simp) _
end Go.Proofs.YtfpfgbhdehbggaaGreatDoor
