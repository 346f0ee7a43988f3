/-
  wordsOf: the words of a piece, for every piece, in every world, of which nothing that was there turns.
-/
import Derived.Test.YtapmheocllicnaaDoorSha
import Derived.Deep.RegionWith
import Derived.Deep.CutRange
namespace Go.Proofs.YtapmheocllicnaaDoor
open Go.RowKit Go.BigFrame
def WAt (B : Nat) (w : World) (p : Nat → BitVec 8) (g : Nat → BitVec 32) (X : World) : Prop :=
  RowAt B 64 (yv p) X ∧ RowAt (B + 1) 64 (wv fun _ => 0#32) X ∧ RowAt (B + 1 + 1) 64 (wv g) X ∧ Below B w X
theorem WAt.set {B : Nat} {w X : World} {p : Nat → BitVec 8} {g : Nat → BitVec 32} (h : WAt B w p g X) (i : Nat) (v : BitVec 32) (g' : Nat → BitVec 32) (hg : ∀ j, j < 64 → g' j = if j = i then v else g j) :
    WAt B w p g' (X.setCell ⟨B + 1 + 1, i, none⟩ (.int .u32 (v.toNat : Int))) := by
  obtain ⟨h1, h2, h3, h4⟩ := h
  refine ⟨h1.other _ _ (by simp; omega), h2.other _ _ (by simp), (h3.set i _).congr fun j hj => ?_, h4.setCell (by simp; omega) _⟩
  simp only [wv, hg j hj]
  by_cases e : j = i <;> simp [e]
theorem WAt.drew {B : Nat} {w X : World} {p : Nat → BitVec 8} {g : Nat → BitVec 32} (h : WAt B w p g X) : WAt B w p g X.drew := ⟨h.1.drew, h.2.1.drew, h.2.2.1.drew, h.2.2.2.drew⟩
theorem WAt.ext {B : Nat} {w X Y : World} {p : Nat → BitVec 8} {g : Nat → BitVec 32} (h : WAt B w p g X) (k : Ext X Y) : WAt B w p g Y :=
  ⟨h.1.carry k, h.2.1.carry k, h.2.2.1.carry k, Ext.below h.2.2.2 (Nat.le_of_lt h.1.2.2) k⟩
def gI (p : Nat → BitVec 8) (n m j : Nat) : BitVec 32 := if j < n then w0 p j else if j = n then beK (fun i => p (4 * n + i)) m else 0#32
theorem gI_end (p : Nat → BitVec 8) (n : Nat) : ∀ j, gI p n 4 j = gI p (n + 1) 0 j := by
  intro j
  unfold gI
  by_cases h1 : j < n
  · rw [if_pos h1, if_pos (by omega)]
  · rw [if_neg h1]
    by_cases h2 : j = n
    · subst h2; rw [if_pos rfl, if_pos (by omega)]; rfl
    · rw [if_neg h2, if_neg (by omega)]
      split <;> rfl
theorem cut64 (b n : Nat) (hn : n < 16) (X : World) : Sem.run Tryd.prog (Instr.sliceAt 70 (.pointer (some ⟨b, 0, none⟩)) (some (.int .i64 (4 * (n : Int)))) (some (.int .i64 (4 * (n : Int) + 4))) none) X = .ok (.slice (some ⟨b, 4 * n, none⟩) 4 (64 - 4 * n)) X := by
  rcases (by omega : n = 0 ∨ n = 1 ∨ n = 2 ∨ n = 3 ∨ n = 4 ∨ n = 5 ∨ n = 6 ∨ n = 7 ∨ n = 8 ∨ n = 9 ∨ n = 10 ∨ n = 11 ∨ n = 12 ∨ n = 13 ∨ n = 14 ∨ n = 15) with rfl | rfl | rfl | rfl | rfl | rfl | rfl | rfl | rfl | rfl | rfl | rfl | rfl | rfl | rfl | rfl <;> simp [go_sem]
set_option maxRecDepth 20000 in
set_option maxHeartbeats 1000000 in
theorem words_any (p : Nat → BitVec 8) (w : World) :
    Calls Tryd.prog 52 #[.agg (row 64 (yv p)).toArray] w fun e w' => e = .returned (.agg (row 64 (wv (wordsW p))).toArray) ∧ Below w.heap.size w w' := by
  have hz := zero42
  go_enter Tryd.func52, Tryd.ntmps52
  go_wp2
  go_loopw [12] (fun i wr => ∃ n : Nat, n ≤ 16 ∧ i = .int .i64 n ∧ WAt w.heap.size w p (gI p n 0) wr) (fun i _ => 16 - (intOf i).toNat)
  case atStart =>
    refine ⟨0, by omega, rfl, ?_, ?_, ?_, ?_⟩
    · exact ((RowAt.new w 64 (yv p) 70).alloc _).alloc _
    · have := (RowAt.new (w.alloc (Obj.cells (row 64 (yv p)).toArray 70)) 64 (wv fun _ => 0#32) 77).alloc (Obj.cells (row 64 (wv fun _ => 0#32)).toArray 77)
      simpa using this
    · have := RowAt.new ((w.alloc (Obj.cells (row 64 (yv p)).toArray 70)).alloc (Obj.cells (row 64 (wv fun _ => 0#32)).toArray 77)) 64 (wv fun _ => 0#32) 77
      refine RowAt.congr (g := wv fun _ => 0#32) (by simpa using this) fun j _ => ?_
      simp only [wv, gI]
      rw [if_neg (by omega)]
      split <;> rfl
    · exact (((Below.refl _ _).alloc (Nat.le_refl _) _).alloc (by simp) _).alloc (by simp; omega) _
  case round =>
    obtain ⟨n, hn, rfl, hT⟩ := hrel
    by_cases hlt : n < 16
    · have HT := hideit hT
      clear hT
      have i0 : (0 : Int) ≤ (n : Int) := by omega
      have i1 : (n : Int) < 16 := by omega
      have c1 := cut64 w.heap.size n hlt
      go_wp2
      go_loopw [22] (fun i wr => ∃ m : Nat, m ≤ 4 ∧ i = .int .i64 m ∧ WAt w.heap.size w p (gI p n m) wr) (fun i _ => 4 - (intOf i).toNat)
      case atStart => exact ⟨0, by omega, rfl, HT.out⟩
      case round =>
        obtain ⟨m, hm, rfl, hT⟩ := hrel
        clear HT
        have HT := hideit hT
        by_cases hlt2 : m < 4
        · have e1 := hT.1.1 (4 * n + m) (by omega)
          have e2 := hT.2.2.1.1 n (by omega)
          have g2 := hT.2.2.1.2.1 n (by omega)
          clear hT
          simp only [yv] at e1
          simp only [wv, gI, if_neg (Nat.lt_irrefl n), if_true] at e2
          have b1 := (p (4 * n + m)).isLt
          have b2 := (beK (fun i => p (4 * n + i)) m).isLt
          have f1 := pW_fact (beK (fun i => p (4 * n + i)) m) (p (4 * n + m))
          go_wp2
          refine ⟨⟨m + 1, by omega, by go_num, HT.out.set n _ _ fun j _ => ?_⟩, by simp [intOf]; omega⟩
          unfold gI
          by_cases h1 : j < n
          · rw [if_pos h1, if_neg (by omega), if_pos h1]
          · rw [if_neg h1, if_neg h1]
            by_cases h2 : j = n
            · rw [if_pos h2, if_pos h2]; rfl
            · rw [if_neg h2, if_neg h2, if_neg h2]
        · obtain rfl : m = 4 := by omega
          clear hT
          go_wp2
          refine ⟨⟨n + 1, by omega, by go_num, ?_⟩, by simp [intOf]; omega⟩
          obtain ⟨h1, h2, h3, h4⟩ := HT.out
          exact ⟨h1, h2, h3.congr fun j _ => by simp only [wv, gI_end], h4⟩
    · obtain rfl : n = 16 := by omega
      have HT : WAt w.heap.size w p (wK p 0) wr := by
        obtain ⟨h1, h2, h3, h4⟩ := hT
        refine ⟨h1, h2, h3.congr fun j _ => ?_, h4⟩
        simp only [wv, gI, wK]
        by_cases h1 : j < 16
        · rw [if_pos h1, if_pos h1]
        · rw [if_neg h1, if_neg h1]
          split <;> rfl
      replace HT := hideit HT
      clear hT
      go_wp2
      go_loopw [7] (fun i wr => ∃ n : Nat, 16 ≤ n ∧ n ≤ 64 ∧ i = .int .i64 (n : Int) ∧ WAt w.heap.size w p (wK p (n - 16)) wr) (fun i _ => 64 - (intOf i).toNat)
      case atStart => exact ⟨16, by omega, by omega, rfl, HT.out⟩
      case round =>
        clear HT
        obtain ⟨n, hn0, hn, rfl, hT⟩ := hrel
        have HT := hideit hT
        by_cases hlt : n < 64
        · have e1 := hT.2.2.1.1 (n - 15) (by omega)
          have e2 := hT.2.2.1.1 (n - 2) (by omega)
          clear hT
          simp only [wv] at e1 e2
          have i0 : (16 : Int) ≤ (n : Int) := by omega
          have i1 : (n : Int) < 64 := by omega
          go_wp2
          go_quiet (fail)
          have HD : WAt w.heap.size w p (wK p (n - 16)) (wr.drewN nq) := HT.out.ext (ext_drewN _ _)
          replace HD := hideit HD
          clear HT e1 e2
          generalize wr.drewN nq = X at *
          obtain ⟨x, hx⟩ : ∃ x, x = wK p (n - 16) (n - 15) := ⟨_, rfl⟩
          obtain ⟨y, hy⟩ : ∃ y, y = wK p (n - 16) (n - 2) := ⟨_, rfl⟩
          rw [← hx, ← hy]
          have fx := xW_fact
          have fs := sW_fact
          have f3 := hR3
          have f10 := hR10
          have HX := hideit hx
          have HYy := hideit hy
          clear hx hy
          go_upto_region 17 with (first | (go_at_call_of 53 (Value.int IntKind.i64 7); refine (right7 _ _).mono ?_; rintro e w' ⟨rfl, rfl⟩) | (go_at_call_of 53 (Value.int IntKind.i64 18); refine (right18 _ _).mono ?_; rintro e w' ⟨rfl, rfl⟩) | (go_at_call_of 53 (Value.int IntKind.i64 17); refine (right17 _ _).mono ?_; rintro e w' ⟨rfl, rfl⟩) | (go_at_call_of 53 (Value.int IntKind.i64 19); refine (right19 _ _).mono ?_; rintro e w' ⟨rfl, rfl⟩))
          have e3 := HD.out.2.2.1.kept (n - 16) (by omega)
          have e4 := HD.out.2.2.1.kept (n - 7) (by omega)
          simp only [wv] at e3 e4
          have hne := kept_ne w'.drew
          refine wp_region_late 15 (by kernel_rfl) (by kernel_rfl) (by decide) ?_
          simp only [List.take_succ_cons, List.take_zero, List.drop_succ_cons, List.drop_zero]
          refine wpStrong_run 15 rfl ?_
          simp only [List.take_succ_cons, List.take_zero, List.drop_succ_cons, List.drop_zero]
          repeat (go_big_quiet_step (fail))
          refine wpQuiet_nil ?_
          refine wpStrong_nil ?_
          intro Y hY
          have HY := hideit (HD.out.drew.ext hY)
          clear e3 e4 hne hY HD
          have e5 := HY.out.2.2.1.1 n (by omega)
          have g5 := HY.out.2.2.1.2.1 n (by omega)
          go_wp2
          have HI : WAt w.heap.size w p (wK p (n + 1 - 16)) (Y.setCell ⟨w.heap.size + 1 + 1, n, none⟩ (.int .u32 ((sW (sW (sW (wK p (n - 16) (n - 16)) (nearW x)) (wK p (n - 16) (n - 7))) (farW y)).toNat : Int))) := by
            refine HY.out.set n _ _ fun j _ => ?_
            rw [show n + 1 - 16 = (n - 16) + 1 by omega]
            simp only [wK, show 16 + (n - 16) = n by omega, nextW]
            rw [HX.out, HYy.out]
          replace HI := hideit HI
          go_roundw
          case rel =>
            first | exact ⟨(n + 1 : Nat), by omega, by omega, by go_num, HI.out⟩ | ((repeat apply Exists.intro); exact ⟨⟨n + 1, by omega, by omega, by go_num, HI.out⟩, rfl⟩)
          case measure => simp [intOf]; omega
        · obtain rfl : n = 64 := by omega
          have HR := hideit (show RowAt (w.heap.size + 1 + 1) 64 (wv (wordsW p)) wr from hT.2.2.1)
          have HR0 := hideit hT.2.1
          have hB := hideit hT.2.2.2
          clear hT HT
          go_wp2_with (first | (refine wpList_load_mid rfl 77 (.tmp 3) rfl _ 0 rfl (row 64 (wv (wordsW p))) _ HR.out.range Tryd.underlying77 rfl (by rw [row_length]; exact info42) ?_) | (refine wpList_store_mid rfl 77 (.tmp 2) (.tmp 80) rfl _ 0 (row 64 (wv (wordsW p))).toArray rfl rfl (by rw [row_size]; exact HR0.out.there) (by rw [row_size]; exact info42) (row_one fun _ _ => rfl) ?_))
          exact bodyPost_ret (ret_row Tryd.results52 rfl (HR0.out.cells (g' := wv (wordsW p))) Tryd.underlying77 rfl info42) rfl ⟨rfl, below_setCells _ (by omega) _ _ _ hB.out⟩
end Go.Proofs.YtapmheocllicnaaDoor
