/-
  The cipher's mixing of columns: what it answers, for every block and any table of doubles. Encrypt: what it answers of any block under any key made ready; nothing that was there turns.
-/
import Derived.Test.YtkoodgfadedeoaaQ6
import Derived.Test.YtkoodgfadedeoaaQ7
import Derived.Test.YtkoodgfadedeoaaQ8
namespace Go.Proofs.Ytkoodgfadedeoaa
open Go.RowKit
/-- a column's sum -/
def allF (f : Nat → BitVec 8) (c : Nat) : BitVec 8 := xB (xB (xB (f c) (f (c + 1))) (f (c + 2))) (f (c + 3))
def mixF (t f : Nat → BitVec 8) (j : Nat) : BitVec 8 := xB (f j) (xB (allF f (j / 4 * 4)) (t (xB (f j) (f (j / 4 * 4 + (j + 1) % 4))).toNat))
def MixAt (B : Nat) (w : World) (t f : Nat → BitVec 8) (i : Nat) (X : World) : Prop :=
  RowAt B 16 (yv fun j => if j < i then mixF t f j else f j) X ∧ RowAt (B + 1) 16 (yv fun _ => 0#8) X ∧ Below B w X
def putY (B : Nat) (i : Nat) (v : BitVec 8) (X : World) : World := (X.setCell ⟨B, i, none⟩ (.int .u8 (v.toNat : Int))).drew
theorem MixAt.step {B : Nat} {w X : World} {t f : Nat → BitVec 8} {i : Nat} (h : MixAt B w t f i X) :
    MixAt B w t f (i + 4) (putY B (i + 3) (mixF t f (i + 3)) (putY B (i + 2) (mixF t f (i + 2)) (putY B (i + 1) (mixF t f (i + 1)) (putY B i (mixF t f i) X.drew)))) := by
  obtain ⟨h1, h2, h3⟩ := h
  refine ⟨((((((((h1.drew).set i _).drew).set (i + 1) _).drew).set (i + 2) _).drew).set (i + 3) _ |>.congr ?_).drew, ?_, ?_⟩
  · intro j _
    by_cases e3 : j = i + 3
    · subst e3; simp [yv]
    · by_cases e2 : j = i + 2
      · subst e2; simp [yv]
      · by_cases e1 : j = i + 1
        · subst e1; simp [yv]
        · by_cases e0 : j = i
          · subst e0; simp [yv]
          · have : (j < i + 4) ↔ (j < i) := by omega
            simp [yv, e0, e1, e2, e3, this]
  · unfold putY
    exact (((((((h2.drew).other _ _ (by simp)).drew).other _ _ (by simp)).drew.other _ _ (by simp)).drew).other _ _ (by simp)).drew
  · unfold putY
    exact (((((((h3.drew).setCell (by simp) _).drew).setCell (by simp) _).drew).setCell (by simp) _).drew.setCell (by simp) _).drew
set_option maxRecDepth 20000 in
set_option maxHeartbeats 4000000 in
theorem mix_any (f t : Nat → BitVec 8) (c : Nat) (w : World) (ht : TabAt c 753 t w) :
    Calls Try.prog 32 #[.pointer (some ⟨c, 0, none⟩), .agg (row 16 (yv f)).toArray] w fun e w' => e = .returned (.agg (row 16 (yv (mixF t f))).toArray) ∧ Below w.heap.size w w' := by
  have hz := zero32
  have HT0 := hideit ht
  clear ht
  go_enter Try.func32, Try.ntmps32
  go_wp2
  go_loopw [5] (fun i wr => ∃ n : Nat, (n = 0 ∨ n = 4 ∨ n = 8 ∨ n = 12 ∨ n = 16) ∧ i = .int .i64 n ∧ MixAt w.heap.size w t f n wr) (fun i _ => 16 - (intOf i).toNat)
  case atStart =>
    refine ⟨0, by decide, rfl, ?_, ?_, ?_⟩
    · exact ((RowAt.new w 16 (yv f) 23).alloc _).congr (fun j _ => by simp [yv])
    · have := RowAt.newOf (w.alloc (Obj.cells (row 16 (yv f)).toArray 23)) 16 (yv fun _ => 0#8) 23 Y16 (fun j hj => Y16_get j hj _ rfl)
      simpa using this
    · exact ((Below.refl _ _).alloc (Nat.le_refl _) _).alloc (by simp) _
  case round =>
    obtain ⟨n, hn, rfl, hT⟩ := hrel
    by_cases hlt : n < 16
    · have hcB : c < w.heap.size := HT0.out.2
      have hne : ¬ (w.heap.size = c) := by omega
      have hne' : ¬ (c = w.heap.size) := by omega
      have ht : ∀ b : BitVec 8, wr.cell? ⟨c, 753 + b.toNat, none⟩ = some (.int .u8 ((t b.toNat).toNat : Int)) := fun b => (HT0.out.below HT0.out.2 hT.2.2).1 b.toNat b.isLt
      have HT := hideit hT
      obtain ⟨h1, _, _⟩ := hT
      have ox := xB_fact
      have hn' : n = 0 ∨ n = 4 ∨ n = 8 ∨ n = 12 := by omega
      clear hn hlt
      rcases hn' with rfl | rfl | rfl | rfl
      · have e0 := h1.1 0 (by decide)
        have e1 := h1.1 1 (by decide)
        have e2 := h1.1 2 (by decide)
        have e3 := h1.1 3 (by decide)
        have g0 := h1.2.1 0 (by decide)
        have g1 := h1.2.1 1 (by decide)
        have g2 := h1.2.1 2 (by decide)
        have g3 := h1.2.1 3 (by decide)
        simp only [yv, Nat.reduceLT, if_false] at e0 e1 e2 e3
        clear h1
        have t0 := ht (xB (f 0) (f 1))
        have t1 := ht (xB (f 1) (f 2))
        have t2 := ht (xB (f 2) (f 3))
        have t3 := ht (xB (f 3) (f 0))
        have b0 : ((xB (f 0) (f 1)).toNat : Int) < 256 := by have := (xB (f 0) (f 1)).isLt; omega
        have b1 : ((xB (f 1) (f 2)).toNat : Int) < 256 := by have := (xB (f 1) (f 2)).isLt; omega
        have b2 : ((xB (f 2) (f 3)).toNat : Int) < 256 := by have := (xB (f 2) (f 3)).isLt; omega
        have b3 : ((xB (f 3) (f 0)).toNat : Int) < 256 := by have := (xB (f 3) (f 0)).isLt; omega
        clear ht
        go_wp2
        go_region
        all_goals (try go_wp2)
        go_region
        all_goals (try go_wp2)
        go_region
        all_goals (try go_wp2)
        go_region
        all_goals (try go_wp2)
        go_region
        all_goals (try go_wp2)
        go_roundw
        case rel =>
          first | exact ⟨4, by decide, by go_num, HT.out.step⟩ | ((repeat apply Exists.intro); exact ⟨⟨4, by decide, by go_num, HT.out.step⟩, rfl⟩)
        case measure => simp [intOf]
      · have e0 := h1.1 4 (by decide)
        have e1 := h1.1 5 (by decide)
        have e2 := h1.1 6 (by decide)
        have e3 := h1.1 7 (by decide)
        have g0 := h1.2.1 4 (by decide)
        have g1 := h1.2.1 5 (by decide)
        have g2 := h1.2.1 6 (by decide)
        have g3 := h1.2.1 7 (by decide)
        simp only [yv, Nat.reduceLT, if_false] at e0 e1 e2 e3
        clear h1
        have t0 := ht (xB (f 4) (f 5))
        have t1 := ht (xB (f 5) (f 6))
        have t2 := ht (xB (f 6) (f 7))
        have t3 := ht (xB (f 7) (f 4))
        have b0 : ((xB (f 4) (f 5)).toNat : Int) < 256 := by have := (xB (f 4) (f 5)).isLt; omega
        have b1 : ((xB (f 5) (f 6)).toNat : Int) < 256 := by have := (xB (f 5) (f 6)).isLt; omega
        have b2 : ((xB (f 6) (f 7)).toNat : Int) < 256 := by have := (xB (f 6) (f 7)).isLt; omega
        have b3 : ((xB (f 7) (f 4)).toNat : Int) < 256 := by have := (xB (f 7) (f 4)).isLt; omega
        clear ht
        go_wp2
        go_region
        all_goals (try go_wp2)
        go_region
        all_goals (try go_wp2)
        go_region
        all_goals (try go_wp2)
        go_region
        all_goals (try go_wp2)
        go_region
        all_goals (try go_wp2)
        go_roundw
        case rel =>
          first | exact ⟨8, by decide, by go_num, HT.out.step⟩ | ((repeat apply Exists.intro); exact ⟨⟨8, by decide, by go_num, HT.out.step⟩, rfl⟩)
        case measure => simp [intOf]
      · have e0 := h1.1 8 (by decide)
        have e1 := h1.1 9 (by decide)
        have e2 := h1.1 10 (by decide)
        have e3 := h1.1 11 (by decide)
        have g0 := h1.2.1 8 (by decide)
        have g1 := h1.2.1 9 (by decide)
        have g2 := h1.2.1 10 (by decide)
        have g3 := h1.2.1 11 (by decide)
        simp only [yv, Nat.reduceLT, if_false] at e0 e1 e2 e3
        clear h1
        have t0 := ht (xB (f 8) (f 9))
        have t1 := ht (xB (f 9) (f 10))
        have t2 := ht (xB (f 10) (f 11))
        have t3 := ht (xB (f 11) (f 8))
        have b0 : ((xB (f 8) (f 9)).toNat : Int) < 256 := by have := (xB (f 8) (f 9)).isLt; omega
        have b1 : ((xB (f 9) (f 10)).toNat : Int) < 256 := by have := (xB (f 9) (f 10)).isLt; omega
        have b2 : ((xB (f 10) (f 11)).toNat : Int) < 256 := by have := (xB (f 10) (f 11)).isLt; omega
        have b3 : ((xB (f 11) (f 8)).toNat : Int) < 256 := by have := (xB (f 11) (f 8)).isLt; omega
        clear ht
        go_wp2
        go_region
        all_goals (try go_wp2)
        go_region
        all_goals (try go_wp2)
        go_region
        all_goals (try go_wp2)
        go_region
        all_goals (try go_wp2)
        go_region
        all_goals (try go_wp2)
        go_roundw
        case rel =>
          first | exact ⟨12, by decide, by go_num, HT.out.step⟩ | ((repeat apply Exists.intro); exact ⟨⟨12, by decide, by go_num, HT.out.step⟩, rfl⟩)
        case measure => simp [intOf]
      · have e0 := h1.1 12 (by decide)
        have e1 := h1.1 13 (by decide)
        have e2 := h1.1 14 (by decide)
        have e3 := h1.1 15 (by decide)
        have g0 := h1.2.1 12 (by decide)
        have g1 := h1.2.1 13 (by decide)
        have g2 := h1.2.1 14 (by decide)
        have g3 := h1.2.1 15 (by decide)
        simp only [yv, Nat.reduceLT, if_false] at e0 e1 e2 e3
        clear h1
        have t0 := ht (xB (f 12) (f 13))
        have t1 := ht (xB (f 13) (f 14))
        have t2 := ht (xB (f 14) (f 15))
        have t3 := ht (xB (f 15) (f 12))
        have b0 : ((xB (f 12) (f 13)).toNat : Int) < 256 := by have := (xB (f 12) (f 13)).isLt; omega
        have b1 : ((xB (f 13) (f 14)).toNat : Int) < 256 := by have := (xB (f 13) (f 14)).isLt; omega
        have b2 : ((xB (f 14) (f 15)).toNat : Int) < 256 := by have := (xB (f 14) (f 15)).isLt; omega
        have b3 : ((xB (f 15) (f 12)).toNat : Int) < 256 := by have := (xB (f 15) (f 12)).isLt; omega
        clear ht
        go_wp2
        go_region
        all_goals (try go_wp2)
        go_region
        all_goals (try go_wp2)
        go_region
        all_goals (try go_wp2)
        go_region
        all_goals (try go_wp2)
        go_region
        all_goals (try go_wp2)
        go_roundw
        case rel =>
          first | exact ⟨16, by decide, by go_num, HT.out.step⟩ | ((repeat apply Exists.intro); exact ⟨⟨16, by decide, by go_num, HT.out.step⟩, rfl⟩)
        case measure => simp [intOf]
    · obtain rfl : n = 16 := by omega
      obtain ⟨h1, h3, hB⟩ := hT
      have HR := hideit (h1.congr (g' := yv (mixF t f)) (fun j hj => by simp [yv, hj]))
      have HR0 := hideit h3
      clear h1 h3
      go_wp2_with (first | (refine wpList_load_mid rfl 23 (.tmp 3) rfl _ 0 rfl (row 16 (yv (mixF t f))) _ HR.out.range Try.underlying23 rfl (by rw [row_length]; exact info32) ?_) | (refine wpList_store_mid rfl 23 (.tmp 4) (.tmp 100) rfl _ 0 (row 16 (yv (mixF t f))).toArray rfl rfl (by rw [row_size]; exact HR0.out.there) (by rw [row_size]; exact info32) (row_one fun _ _ => rfl) ?_))
      refine bodyPost_ret (v := .agg (row 16 (yv (mixF t f))).toArray) ?_ rfl ⟨rfl, below_setCells _ (by omega) _ _ _ hB⟩
      have hl := run_loadVar_mid (P := Try.prog) (wr.setCells (w.heap.size + 1) 0 (row 16 (yv (mixF t f)))) (w.heap.size + 1) 0 23 (row 16 (yv (mixF t f))) _ (HR0.out.cells (g' := yv (mixF t f))).range Try.underlying23 rfl (by rw [row_length]; exact info32)
      simp [results, Try.results32, asAddr, hl]
end Go.Proofs.Ytkoodgfadedeoaa
namespace Go.Proofs.Ytkoodgfadedeoaa
open Go.RowKit Go.BigFrame
def kF (K : Nat → BitVec 8) (n j : Nat) : BitVec 8 := K (n * 16 + j)
def encK (K bx tw f : Nat → BitVec 8) : Nat → Nat → BitVec 8
  | 0 => addF f (kF K 0)
  | n + 1 => addF (mixF tw (turnF 1 (replF bx (encK K bx tw f n)))) (kF K (n + 1))
def encF (K bx tw : Nat → BitVec 8) (r : Nat) (f : Nat → BitVec 8) : Nat → BitVec 8 := addF (turnF 1 (replF bx (encK K bx tw f (r - 1)))) (kF K r)
theorem encK_succ (K bx tw f : Nat → BitVec 8) (n : Nat) (hn : 1 ≤ n) : addF (mixF tw (turnF 1 (replF bx (encK K bx tw f (n - 1))))) (kF K n) = encK K bx tw f n := by
  cases n with
  | zero => omega
  | succ n => simp only [Nat.add_sub_cancel, encK]
theorem makes32 {o : Oper} (hg : o.guard = none) (ho : o.op = .alloc 23) : Makes Try.prog o 16 (yv fun _ => 0#8) := ⟨hg, fun ρ w => ⟨(row 16 (yv fun _ => 0#8)).toArray, 23, by
  unfold execOp
  rw [ho]
  simp [go_sem]
  rfl, fun j hj => by rw [List.getElem?_toArray]; exact row_get 16 _ j hj⟩⟩
/-- a whole array, loaded in a region that draws its order -/
theorem load16 {W : World} {K : Act → Prop} {op : Oper} {a : Act} (x : Operand) (b off : Nat) (g : Nat → BitVec 8) (ho : op.op = .load 23 x) (hx : a.eval x = .pointer (some ⟨b, off, none⟩)) (hc : ∀ w', Ext W w' → w'.rangeAt b off (row 16 (yv g)))
    (h : K (a.put op.dst (.agg (row 16 (yv g)).toArray))) : op.quiet Try.prog a (fun w' => ∃ k : Kept (Ext W), w' = k.w) K :=
  ⟨_, fun w hw => by
    obtain ⟨k, rfl⟩ := hw
    unfold Oper.quietAt execOp
    simp only [ho, hx, Instr.loadAt, Instr.sureAddr, Sem.run_bind, Sem.run_pure, Result.andThen_ok, run_loadVar_mid (P := Try.prog) k.w b off 23 (row 16 (yv g)) _ (hc _ k.ok) Try.underlying23 rfl (by rw [row_length]; exact info32)]
    exact ⟨rfl, rfl⟩, h⟩
def StateAt (c r : Nat) (K bx ub tw : Nat → BitVec 8) (B : Nat) (w : World) (b : Nat) (f : Nat → BitVec 8) (X : World) : Prop :=
  RowAt b 16 (yv f) X ∧ RowAt (B + 1) 16 (yv fun _ => 0#8) X ∧ CipherAt c r K bx ub tw X ∧ Below B w X
theorem StateAt.ext {c r B b : Nat} {K bx ub tw f : Nat → BitVec 8} {w X Y : World} (h : StateAt c r K bx ub tw B w b f X) (hB : w.heap.size = B) (k : Ext X Y) : StateAt c r K bx ub tw B w b f Y :=
  ⟨h.1.carry k, h.2.1.carry k, h.2.2.1.carry k, Below.trans h.2.2.2 (Below.mono k (by have := Below.size h.2.2.2; omega))⟩
theorem StateAt.draw {c r B b : Nat} {K bx ub tw f : Nat → BitVec 8} {w X Y : World} (h : StateAt c r K bx ub tw B w b f X) (hB : w.heap.size = B) (k : Ext X.drew Y) : StateAt c r K bx ub tw B w b f Y :=
  StateAt.ext (X := X.drew) ⟨h.1.drew, h.2.1.drew, RowAt.drew h.2.2.1, h.2.2.2.drew⟩ hB k
theorem StateAt.put {c r B b : Nat} {K bx ub tw f : Nat → BitVec 8} {w X : World} (h : StateAt c r K bx ub tw B w b f X) (hb : B + 2 ≤ b) (hc : c < B) (g : Nat → BitVec 8) : StateAt c r K bx ub tw B w b g (X.setCells b 0 (row 16 (yv g))) :=
  ⟨h.1.cells, h.2.1.cellsOther (by omega) _ _, RowAt.cellsOther h.2.2.1 (by omega) _ _, below_setCells _ (by omega) _ _ _ h.2.2.2⟩
theorem kF_range {c r : Nat} {K bx ub tw : Nat → BitVec 8} {w : World} (h : CipherAt c r K bx ub tw w) (n : Nat) (hn : n ≤ 14) : w.rangeAt c (1 + n * 16) (row 16 (yv (kF K n))) := h.key n hn
set_option maxRecDepth 20000 in
set_option maxHeartbeats 2000000 in
theorem enc_any (c r : Nat) (K bx ub tw f : Nat → BitVec 8) (hr : 1 ≤ r) (hr2 : r ≤ 14) (w : World) (h : CipherAt c r K bx ub tw w) :
    Calls Try.prog 12 #[.pointer (some ⟨c, 0, none⟩), .agg (row 16 (yv f)).toArray] w fun e w' => e = .returned (.agg (row 16 (yv (encF K bx tw r f))).toArray) ∧ Below w.heap.size w w' := by
  have hz := store_Y16
  have hcs : c < w.heap.size := h.2.2
  have hne : ¬ (c = w.heap.size) := by omega
  have HA : RowAt w.heap.size 16 (yv f) ((w.alloc (.cells (row 16 (yv f)).toArray 23)).alloc (.cells (row 16 (yv fun _ => 0#8)).toArray 23)) := (RowAt.new w 16 (yv f) 23).alloc _
  have HZ : RowAt (w.heap.size + 1) 16 (yv fun _ => 0#8) ((w.alloc (.cells (row 16 (yv f)).toArray 23)).alloc (.cells (row 16 (yv fun _ => 0#8)).toArray 23)) := by
    have := RowAt.new (w.alloc (.cells (row 16 (yv f)).toArray 23)) 16 (yv fun _ => 0#8) 23
    simpa using this
  have HC : CipherAt c r K bx ub tw ((w.alloc (.cells (row 16 (yv f)).toArray 23)).alloc (.cells (row 16 (yv fun _ => 0#8)).toArray 23)) := RowAt.alloc (RowAt.alloc h _) _
  have HBl : Below w.heap.size w ((w.alloc (.cells (row 16 (yv f)).toArray 23)).alloc (.cells (row 16 (yv fun _ => 0#8)).toArray 23)) := ((Below.refl _ _).alloc (Nat.le_refl _) _).alloc (by simp) _
  replace HA := hideit HA
  replace HZ := hideit HZ
  replace HC := hideit HC
  replace HBl := hideit HBl
  clear h
  go_enter Try.func12, Try.ntmps12
  go_wp2
  have hne := kept_ne ((w.alloc (.cells (row 16 (yv f)).toArray 23)).alloc (.cells (row 16 (yv fun _ => 0#8)).toArray 23)).drew
  refine wp_region_made 7 16 (yv fun _ => 0#8) _ (by kernel_rfl) (by kernel_rfl) rfl (makes32 rfl rfl) ?_
  simp only [List.take_succ_cons, List.take_zero, List.drop_succ_cons, List.drop_zero]
  refine wpStrong_run 6 rfl ?_
  simp only [List.take_succ_cons, List.take_zero, List.drop_succ_cons, List.drop_zero]
  go_big_quiet_want
  refine load16 (.tmp 3) _ 0 f rfl rfl (fun w' hw' => (HA.out.drew.carry hw').range) ?_
  simp only [Act.put, List.setIfInBounds_toArray, List.set_cons_zero, List.set_cons_succ]
  go_big_quiet_on
  repeat (go_big_quiet_step (fail))
  go_big_quiet_want
  refine load16 (.tmp 14) _ 1 (kF K 0) rfl rfl (fun w' hw' => kF_range (CipherAt.carry (RowAt.drew HC.out) hw') 0 (by omega)) ?_
  simp only [Act.put, List.setIfInBounds_toArray, List.set_cons_zero, List.set_cons_succ]
  go_big_quiet_on
  refine wpQuiet_nil ?_
  refine wpStrong_call rfl (fun X => by simp [go_sem]) (fun X hX => add_any f (kF K 0) X) ?_
  simp only [Act.put, List.setIfInBounds_toArray, List.set_cons_zero, List.set_cons_succ]
  refine wpStrong_nil ?_
  intro b X hb hX hR
  have hb2 : w.heap.size + 2 ≤ b := by
    have : ((w.alloc (.cells (row 16 (yv f)).toArray 23)).alloc (.cells (row 16 (yv fun _ => 0#8)).toArray 23)).heap.size = w.heap.size + 1 + 1 := by simp
    omega
  have HS := hideit (StateAt.ext (c := c) (r := r) (K := K) (bx := bx) (ub := ub) (tw := tw) (b := w.heap.size) (f := f) ⟨HA.out.drew, HZ.out.drew, RowAt.drew HC.out, HBl.out.drew⟩ rfl hX)
  have HS2 : StateAt c r K bx ub tw w.heap.size w b (fun _ => 0#8) X := ⟨hR, HS.out.2⟩
  replace HS2 := hideit HS2
  clear HA HZ HC HBl HS
  replace hR := hideit hR
  go_wp2_with (refine wpList_store_mid rfl 23 (.tmp 5) (.tmp 16) rfl _ 0 (row 16 (yv (addF f (kF K 0)))).toArray rfl rfl (by rw [row_size]; exact hR.out.there) (by rw [row_size]; exact info32) (row_one fun _ _ => rfl) ?_)
  have HS3 := hideit (HS2.out.put hb2 hcs (addF f (kF K 0)))
  clear hX hR HS2
  generalize X.setCells b 0 (row 16 (yv (addF f (kF K 0)))) = X1 at *
  go_loopw [6] (fun i wr => ∃ n : Nat, 1 ≤ n ∧ n ≤ r ∧ i = .int .i64 n ∧ StateAt c r K bx ub tw w.heap.size w b (encK K bx tw f (n - 1)) wr) (fun i _ => r - (intOf i).toNat)
  case atStart => exact ⟨1, by omega, by omega, rfl, HS3.out⟩
  case round =>
    obtain ⟨n, hn1, hn, rfl, hT⟩ := hrel
    have HT := hideit hT
    have e0 := CipherAt.rounds hT.2.2.1
    clear hT HS3
    by_cases hlt : n < r
    · have hlt2 : (n : Int) < (r : Int) := by omega
      go_wp2
      have hne := kept_ne wr.drew
      refine wp_region_late 8 (by kernel_rfl) (by kernel_rfl) (by decide) ?_
      simp only [List.take_succ_cons, List.take_zero, List.drop_succ_cons, List.drop_zero]
      refine wpStrong_run 5 rfl ?_
      simp only [List.take_succ_cons, List.take_zero, List.drop_succ_cons, List.drop_zero]
      go_big_quiet_step (fail)
      go_big_quiet_want
      refine load16 (.tmp 5) _ 0 (encK K bx tw f (n - 1)) rfl rfl (fun w' hw' => (HT.out.1.drew.carry hw').range) ?_
      simp only [Act.put, List.setIfInBounds_toArray, List.set_cons_zero, List.set_cons_succ]
      go_big_quiet_on
      repeat (go_big_quiet_step (fail))
      refine wpQuiet_nil ?_
      refine wpStrong_call rfl (fun X => by simp [go_sem]) (fun X hX => repl_any (encK K bx tw f (n - 1)) bx c 241 X (CipherAt.box (CipherAt.carry (RowAt.drew HT.out.2.2.1) hX))) ?_
      simp only [Act.put, List.setIfInBounds_toArray, List.set_cons_zero, List.set_cons_succ]
      refine wpStrong_call rfl (fun X => by simp [go_sem]) (fun X hX => turnRows_any (replF bx (encK K bx tw f (n - 1))) 1 (.inl rfl) X) ?_
      simp only [Act.put, List.setIfInBounds_toArray, List.set_cons_zero, List.set_cons_succ]
      refine wpStrong_call rfl (fun X => by simp [go_sem]) (fun X hX => mix_any (turnF 1 (replF bx (encK K bx tw f (n - 1)))) tw c X (CipherAt.twice (CipherAt.carry (RowAt.drew HT.out.2.2.1) hX))) ?_
      simp only [Act.put, List.setIfInBounds_toArray, List.set_cons_zero, List.set_cons_succ]
      refine wpStrong_nil ?_
      intro X hX
      have HX := hideit (StateAt.draw HT.out rfl hX)
      clear hX
      go_wp2_with (refine wpList_store_mid rfl 23 (.tmp 5) (.tmp 32) rfl _ 0 (row 16 (yv (mixF tw (turnF 1 (replF bx (encK K bx tw f (n - 1))))))).toArray rfl rfl (by rw [row_size]; exact HX.out.1.there) (by rw [row_size]; exact info32) (row_one fun _ _ => rfl) ?_)
      simp only [Act.put]
      have HY := hideit (HX.out.put hb2 hcs (mixF tw (turnF 1 (replF bx (encK K bx tw f (n - 1))))))
      clear HX HT
      generalize X.setCells b 0 (row 16 (yv (mixF tw (turnF 1 (replF bx (encK K bx tw f (n - 1))))))) = Y at *
      have hne := kept_ne Y.drew
      have i0 : (0 : Int) ≤ (n : Int) := by omega
      have i1 : (n : Int) < 15 := by omega
      refine wp_region_late 8 (by kernel_rfl) (by kernel_rfl) (by decide) ?_
      simp only [List.take_succ_cons, List.take_zero, List.drop_succ_cons, List.drop_zero]
      refine wpStrong_run 7 rfl ?_
      simp only [List.take_succ_cons, List.take_zero, List.drop_succ_cons, List.drop_zero]
      go_big_quiet_want
      refine load16 (.tmp 5) _ 0 (mixF tw (turnF 1 (replF bx (encK K bx tw f (n - 1))))) rfl rfl (fun w' hw' => (HY.out.1.drew.carry hw').range) ?_
      simp only [Act.put, List.setIfInBounds_toArray, List.set_cons_zero, List.set_cons_succ]
      go_big_quiet_on
      repeat (go_big_quiet_step (fail))
      go_big_quiet_want
      refine load16 (.tmp 38) _ (1 + n * 16) (kF K n) rfl rfl (fun w' hw' => kF_range (CipherAt.carry (RowAt.drew HY.out.2.2.1) hw') n (by omega)) ?_
      simp only [Act.put, List.setIfInBounds_toArray, List.set_cons_zero, List.set_cons_succ]
      go_big_quiet_on
      refine wpQuiet_nil ?_
      refine wpStrong_call rfl (fun X => by simp [go_sem]) (fun X hX => add_any (mixF tw (turnF 1 (replF bx (encK K bx tw f (n - 1))))) (kF K n) X) ?_
      simp only [Act.put, List.setIfInBounds_toArray, List.set_cons_zero, List.set_cons_succ]
      refine wpStrong_nil ?_
      rw [encK_succ K bx tw f n hn1]
      intro Z hZ
      have HZ := hideit (StateAt.draw HY.out rfl hZ)
      clear hZ HY
      refine wpList_store_mid rfl 23 (.tmp 5) (.tmp 40) rfl _ 0 (row 16 (yv (encK K bx tw f n))).toArray rfl rfl (by rw [row_size]; exact HZ.out.1.there) (by rw [row_size]; exact info32) (row_one fun _ _ => rfl) ?_
      have HI := hideit (HZ.out.put hb2 hcs (encK K bx tw f n))
      clear HZ
      generalize Z.setCells b 0 (row 16 (yv (encK K bx tw f n))) = V at *
      replace HI : Hid (StateAt c r K bx ub tw w.heap.size w b (encK K bx tw f (n + 1 - 1)) V) := by rw [Nat.add_sub_cancel]; exact HI
      go_wp2
      go_roundw
      case rel =>
        first | exact ⟨(n + 1 : Nat), by omega, by omega, by go_num, HI.out⟩ | ((repeat apply Exists.intro); exact ⟨⟨n + 1, by omega, by omega, by go_num, HI.out⟩, rfl⟩)
      case measure => simp [intOf]; omega
    · obtain rfl : n = r := by omega
      have hnl : ¬ ((n : Int) < (n : Int)) := by omega
      go_wp2
      have hne := kept_ne wr.drew
      refine wp_region_late 6 (by kernel_rfl) (by kernel_rfl) (by decide) ?_
      simp only [List.take_succ_cons, List.take_zero, List.drop_succ_cons, List.drop_zero]
      refine wpStrong_run 4 rfl ?_
      simp only [List.take_succ_cons, List.take_zero, List.drop_succ_cons, List.drop_zero]
      go_big_quiet_want
      refine load16 (.tmp 5) _ 0 (encK K bx tw f (n - 1)) rfl rfl (fun w' hw' => (HT.out.1.drew.carry hw').range) ?_
      simp only [Act.put, List.setIfInBounds_toArray, List.set_cons_zero, List.set_cons_succ]
      go_big_quiet_on
      repeat (go_big_quiet_step (fail))
      refine wpQuiet_nil ?_
      refine wpStrong_call rfl (fun X => by simp [go_sem]) (fun X hX => repl_any (encK K bx tw f (n - 1)) bx c 241 X (CipherAt.box (CipherAt.carry (RowAt.drew HT.out.2.2.1) hX))) ?_
      simp only [Act.put, List.setIfInBounds_toArray, List.set_cons_zero, List.set_cons_succ]
      refine wpStrong_call rfl (fun X => by simp [go_sem]) (fun X hX => turnRows_any (replF bx (encK K bx tw f (n - 1))) 1 (.inl rfl) X) ?_
      simp only [Act.put, List.setIfInBounds_toArray, List.set_cons_zero, List.set_cons_succ]
      refine wpStrong_nil ?_
      intro X hX
      have HX := hideit (StateAt.draw HT.out rfl hX)
      clear hX
      go_wp2_with (refine wpList_store_mid rfl 23 (.tmp 5) (.tmp 46) rfl _ 0 (row 16 (yv (turnF 1 (replF bx (encK K bx tw f (n - 1)))))).toArray rfl rfl (by rw [row_size]; exact HX.out.1.there) (by rw [row_size]; exact info32) (row_one fun _ _ => rfl) ?_)
      simp only [Act.put]
      have HY := hideit (HX.out.put hb2 hcs (turnF 1 (replF bx (encK K bx tw f (n - 1)))))
      clear HX HT e0
      generalize X.setCells b 0 (row 16 (yv (turnF 1 (replF bx (encK K bx tw f (n - 1)))))) = Y at *
      have hne := kept_ne Y.drew
      have e0 : ∀ k : Kept (Ext Y.drew), k.w.cell? ⟨c, 0, none⟩ = some (.int .i64 (n : Int)) := fun k => CipherAt.rounds (CipherAt.carry (RowAt.drew HY.out.2.2.1) k.ok)
      have i0 : (0 : Int) ≤ (n : Int) := by omega
      have i1 : (n : Int) < 15 := by omega
      refine wp_region_late 11 (by kernel_rfl) (by kernel_rfl) (by decide) ?_
      simp only [List.take_succ_cons, List.take_zero, List.drop_succ_cons, List.drop_zero]
      refine wpStrong_run 10 rfl ?_
      simp only [List.take_succ_cons, List.take_zero, List.drop_succ_cons, List.drop_zero]
      go_big_quiet_want
      refine load16 (.tmp 5) _ 0 (turnF 1 (replF bx (encK K bx tw f (n - 1)))) rfl rfl (fun w' hw' => (HY.out.1.drew.carry hw').range) ?_
      simp only [Act.put, List.setIfInBounds_toArray, List.set_cons_zero, List.set_cons_succ]
      go_big_quiet_on
      repeat (go_big_quiet_step (fail))
      go_big_quiet_want
      refine load16 (.tmp 55) _ (1 + n * 16) (kF K n) rfl rfl (fun w' hw' => kF_range (CipherAt.carry (RowAt.drew HY.out.2.2.1) hw') n (by omega)) ?_
      simp only [Act.put, List.setIfInBounds_toArray, List.set_cons_zero, List.set_cons_succ]
      go_big_quiet_on
      refine wpQuiet_nil ?_
      refine wpStrong_call rfl (fun X => by simp [go_sem]) (fun X hX => add_any (turnF 1 (replF bx (encK K bx tw f (n - 1)))) (kF K n) X) ?_
      simp only [Act.put, List.setIfInBounds_toArray, List.set_cons_zero, List.set_cons_succ]
      refine wpStrong_nil ?_
      intro Z hZ
      have HZ := hideit (StateAt.draw HY.out rfl hZ)
      clear hZ HY
      go_wp2_with (refine wpList_store_mid rfl 23 (.tmp 4) (.tmp 57) rfl _ 0 (row 16 (yv (encF K bx tw n f))).toArray rfl rfl (by rw [row_size]; exact HZ.out.2.1.there) (by rw [row_size]; exact info32) (row_one fun _ _ => rfl) ?_)
      exact bodyPost_ret (ret_row Try.results12 rfl (HZ.out.2.1.cells (g' := yv (encF K bx tw n f))) Try.underlying23 rfl info32) rfl ⟨rfl, below_setCells _ (by omega) _ _ _ HZ.out.2.2.2⟩
set_option maxRecDepth 20000 in
set_option maxHeartbeats 1000000 in
theorem nil_enc (f : Nat → BitVec 8) (w : World) :
    Calls Try.prog 12 #[.pointer none, .agg (row 16 (yv f)).toArray] w fun e w' => e = .returned (.agg (row 16 (yv fun _ => 0#8)).toArray) ∧ Below w.heap.size w w' := by
  have hz := store_Y16
  have HZ : RowAt (w.heap.size + 1) 16 (yv fun _ => 0#8) ((w.alloc (.cells (row 16 (yv f)).toArray 23)).alloc (.cells (row 16 (yv fun _ => 0#8)).toArray 23)) := by
    have := RowAt.new (w.alloc (.cells (row 16 (yv f)).toArray 23)) 16 (yv fun _ => 0#8) 23
    simpa using this
  replace HZ := hideit HZ
  go_enter Try.func12, Try.ntmps12
  go_wp2_with (refine wpList_store_mid rfl 23 (.tmp 4) (.tmp 9) rfl _ 0 (row 16 (yv fun _ => 0#8)).toArray rfl rfl (by rw [row_size]; exact HZ.out.there) (by rw [row_size]; exact info32) (row_one fun _ _ => rfl) ?_)
  exact bodyPost_ret (ret_row Try.results12 rfl (HZ.out.cells (g' := yv fun _ => 0#8)) Try.underlying23 rfl info32) rfl ⟨rfl, below_setCells _ (by omega) _ _ _ (((Below.refl _ _).alloc (Nat.le_refl _) _).alloc (by simp) _)⟩
end Go.Proofs.Ytkoodgfadedeoaa
