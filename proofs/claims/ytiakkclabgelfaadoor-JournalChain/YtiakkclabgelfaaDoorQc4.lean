/-
  The digest's steps on words, as plain functions; how the walk spells them. wordsOf: the words of a piece, for every piece, in every world, of which nothing that was there turns.
-/
import Derived.Test.YtiakkclabgelfaaDoorQc3
import Derived.Deep.RegionWith
import Derived.Deep.CutRange
namespace Go.Proofs.YtiakkclabgelfaaDoor
open Go.RowKit Go.BigFrame
def xW (a b : BitVec 32) : BitVec 32 := a ^^^ b
def aW (a b : BitVec 32) : BitVec 32 := a &&& b
def oW (a b : BitVec 32) : BitVec 32 := a ||| b
def nW (a : BitVec 32) : BitVec 32 := ~~~a
def sW (a b : BitVec 32) : BitVec 32 := a + b
def hR (n : Nat) (a : BitVec 32) : BitVec 32 := a >>> n
theorem xW_fact (a b : BitVec 32) : bits .xor .u32 (a.toNat : Int) (b.toNat : Int) = ((xW a b).toNat : Int) := by
  unfold xW; rw [u32_xor_nat _ _ a.isLt b.isLt, BitVec.toNat_xor]
theorem aW_fact (a b : BitVec 32) : bits .and .u32 (a.toNat : Int) (b.toNat : Int) = ((aW a b).toNat : Int) := by
  unfold aW; rw [u32_and_nat _ _ a.isLt b.isLt, BitVec.toNat_and]
theorem oW_fact (a b : BitVec 32) : bits .or .u32 (a.toNat : Int) (b.toNat : Int) = ((oW a b).toNat : Int) := by
  unfold oW; rw [u32_or_nat _ _ a.isLt b.isLt, BitVec.toNat_or]
theorem nW_fact (a : BitVec 32) : bits .xor .u32 (if IntKind.u32.signed = true then -1 else IntKind.u32.max) (a.toNat : Int) = ((nW a).toNat : Int) := by
  have h1 : (if IntKind.u32.signed = true then (-1 : Int) else IntKind.u32.max) = ((4294967295 : Nat) : Int) := by decide
  rw [h1, u32_xor_nat _ _ (by decide) a.isLt]
  unfold nW
  have h2 : (4294967295 : Nat) = (BitVec.allOnes 32).toNat := by decide
  rw [h2, ← BitVec.toNat_xor, BitVec.allOnes_xor]
theorem sW_fact (a b : BitVec 32) : ((a.toNat : Int) + (b.toNat : Int)) % 4294967296 = ((sW a b).toNat : Int) := by
  unfold sW; rw [BitVec.toNat_add]; omega
theorem hR_fact (a : BitVec 32) (n : Nat) : ((a.toNat : Int) / ((2 ^ n : Nat) : Int)) = ((hR n a).toNat : Int) := by
  unfold hR; rw [BitVec.toNat_ushiftRight, Nat.shiftRight_eq_div_pow]; rfl
theorem hR3 (a : BitVec 32) : (a.toNat : Int) / 8 = ((hR 3 a).toNat : Int) := hR_fact a 3
theorem hR10 (a : BitVec 32) : (a.toNat : Int) / 1024 = ((hR 10 a).toNat : Int) := hR_fact a 10
def pW (a : BitVec 32) (b : BitVec 8) : BitVec 32 := a <<< 8 ||| b.setWidth 32
theorem pW_fact (a : BitVec 32) (b : BitVec 8) : bits .or .u32 ((a.toNat : Int) * 256 % 4294967296) (b.toNat : Int) = ((pW a b).toNat : Int) := by
  have h1 : ((a.toNat : Int) * 256 % 4294967296) = ((a.toNat * 256 % 4294967296 : Nat) : Int) := by omega
  have hb := b.isLt
  rw [h1, u32_or_nat _ _ (Nat.mod_lt _ (by decide)) (by omega)]
  unfold pW
  rw [BitVec.toNat_or, BitVec.toNat_shiftLeft, BitVec.toNat_setWidth, Nat.shiftLeft_eq, Nat.mod_eq_of_lt (show b.toNat < 2 ^ 32 by omega)]
def beK (p : Nat → BitVec 8) : Nat → BitVec 32
  | 0 => 0#32
  | m + 1 => pW (beK p m) (p m)
def w0 (p : Nat → BitVec 8) (t : Nat) : BitVec 32 := beK (fun j => p (4 * t + j)) 4
def nearW (x : BitVec 32) : BitVec 32 := xW (xW (rR 7 x) (rR 18 x)) (hR 3 x)
def farW (y : BitVec 32) : BitVec 32 := xW (xW (rR 17 y) (rR 19 y)) (hR 10 y)
def nextW (W : Nat → BitVec 32) (t : Nat) : BitVec 32 := sW (sW (sW (W (t - 16)) (nearW (W (t - 15)))) (W (t - 7))) (farW (W (t - 2)))
def wK (p : Nat → BitVec 8) : Nat → Nat → BitVec 32
  | 0, j => if j < 16 then w0 p j else 0#32
  | m + 1, j => if j = 16 + m then nextW (wK p m) (16 + m) else wK p m j
def wordsW (p : Nat → BitVec 8) : Nat → BitVec 32 := wK p 48
def kL : List Nat := [1116352408, 1899447441, 3049323471, 3921009573, 961987163, 1508970993, 2453635748, 2870763221, 3624381080, 310598401, 607225278, 1426881987, 1925078388, 2162078206, 2614888103, 3248222580, 3835390401, 4022224774, 264347078, 604807628, 770255983, 1249150122, 1555081692, 1996064986, 2554220882, 2821834349, 2952996808, 3210313671, 3336571891, 3584528711, 113926993, 338241895, 666307205, 773529912, 1294757372, 1396182291, 1695183700, 1986661051, 2177026350, 2456956037, 2730485921, 2820302411, 3259730800, 3345764771, 3516065817, 3600352804, 4094571909, 275423344, 430227734, 506948616, 659060556, 883997877, 958139571, 1322822218, 1537002063, 1747873779, 1955562222, 2024104815, 2227730452, 2361852424, 2428436474, 2756734187, 3204031479, 3329325298]
def kT (j : Nat) : BitVec 32 := BitVec.ofNat 32 (kL.getD j 0)
def oneW (e f g h k w : BitVec 32) : BitVec 32 := sW (sW (sW (sW h (xW (xW (rR 6 e) (rR 11 e)) (rR 25 e))) (oW (aW e f) (aW (nW e) g))) k) w
def twoW (a b c : BitVec 32) : BitVec 32 := sW (xW (xW (rR 2 a) (rR 13 a)) (rR 22 a)) (oW (oW (aW a b) (aW a c)) (aW b c))
def rnd (k w : BitVec 32) (s : Nat → BitVec 32) : Nat → BitVec 32
  | 0 => sW (oneW (s 4) (s 5) (s 6) (s 7) k w) (twoW (s 0) (s 1) (s 2))
  | 4 => sW (s 3) (oneW (s 4) (s 5) (s 6) (s 7) k w)
  | j + 1 => s j
def rndK (W s : Nat → BitVec 32) : Nat → Nat → BitVec 32
  | 0 => s
  | n + 1 => rnd (kT n) (W n) (rndK W s n)
def blockF (s : Nat → BitVec 32) (p : Nat → BitVec 8) (j : Nat) : BitVec 32 := sW (s j) (rndK (wordsW p) s 64 j)
theorem zero42 (w : World) : Sem.run Tryd.prog (zeroValue 142) w = .ok (.agg (row 64 (wv fun _ => 0#32)).toArray) w := by kernel_rfl
theorem zero28 (w : World) : Sem.run Tryd.prog (zeroValue 132) w = .ok (.agg (row 8 (wv fun _ => 0#32)).toArray) w := by kernel_rfl
theorem zero24 (w : World) : Sem.run Tryd.prog (zeroValue 112) w = .ok (.agg (row 32 (yv fun _ => 0#8)).toArray) w := by kernel_rfl
theorem info42 : (Tryd.prog.info? 142).map (·.size) = some 64 := by kernel_rfl
theorem info28 : (Tryd.prog.info? 132).map (·.size) = some 8 := by kernel_rfl
theorem info29 : (Tryd.prog.info? 134).map (·.size) = some 64 := by kernel_rfl
theorem info24 : (Tryd.prog.info? 112).map (·.size) = some 32 := by kernel_rfl
end Go.Proofs.YtiakkclabgelfaaDoor
namespace Go.Proofs.YtiakkclabgelfaaDoor
open Go.RowKit Go.BigFrame
def WAt (B : Nat) (w : World) (p : Nat → BitVec 8) (g : Nat → BitVec 32) (X : World) : Prop :=
  RowAt B 64 (yv p) X ∧ RowAt (B + 1) 64 (wv fun _ => 0#32) X ∧ RowAt (B + 1 + 1) 64 (wv g) X ∧ Below B w X
theorem WAt.set {B : Nat} {w X : World} {p : Nat → BitVec 8} {g : Nat → BitVec 32} (h : WAt B w p g X) (i : Nat) (v : BitVec 32) (g' : Nat → BitVec 32) (hg : ∀ j, j < 64 → g' j = if j = i then v else g j) :
    WAt B w p g' (X.setCell ⟨B + 1 + 1, i, none⟩ (.int .u32 (v.toNat : Int))) := by
  obtain ⟨h1, h2, h3, h4⟩ := h
  refine ⟨h1.other _ _ (by simp; omega), h2.other _ _ (by simp), (h3.set i _).congr fun j hj => ?_, h4.setCell (by simp; omega) _⟩
  simp only [wv, hg j hj]
  by_cases e : j = i <;> simp [e]
theorem WAt.drew {B : Nat} {w X : World} {p : Nat → BitVec 8} {g : Nat → BitVec 32} (h : WAt B w p g X) : WAt B w p g X.drew := ⟨h.1.drew, h.2.1.drew, h.2.2.1.drew, h.2.2.2.drew⟩
theorem WAt.ext {B : Nat} {w X Y : World} {p : Nat → BitVec 8} {g : Nat → BitVec 32} (h : WAt B w p g X) (k : Ext X Y) : WAt B w p g Y :=
  ⟨h.1.carry k, h.2.1.carry k, h.2.2.1.carry k, Ext.below h.2.2.2 (Nat.le_of_lt h.1.2.2) k⟩
def gI (p : Nat → BitVec 8) (n m j : Nat) : BitVec 32 := if j < n then w0 p j else if j = n then beK (fun i => p (4 * n + i)) m else 0#32
theorem gI_end (p : Nat → BitVec 8) (n : Nat) : ∀ j, gI p n 4 j = gI p (n + 1) 0 j := by
  intro j
  unfold gI
  by_cases h1 : j < n
  · rw [if_pos h1, if_pos (by omega)]
  · rw [if_neg h1]
    by_cases h2 : j = n
    · subst h2; rw [if_pos rfl, if_pos (by omega)]; rfl
    · rw [if_neg h2, if_neg (by omega)]
      split <;> rfl
theorem cut64 (b n : Nat) (hn : n < 16) (X : World) : Sem.run Tryd.prog (Instr.sliceAt 134 (.pointer (some ⟨b, 0, none⟩)) (some (.int .i64 (4 * (n : Int)))) (some (.int .i64 (4 * (n : Int) + 4))) none) X = .ok (.slice (some ⟨b, 4 * n, none⟩) 4 (64 - 4 * n)) X := by
  rcases (by omega : n = 0 ∨ n = 1 ∨ n = 2 ∨ n = 3 ∨ n = 4 ∨ n = 5 ∨ n = 6 ∨ n = 7 ∨ n = 8 ∨ n = 9 ∨ n = 10 ∨ n = 11 ∨ n = 12 ∨ n = 13 ∨ n = 14 ∨ n = 15) with rfl | rfl | rfl | rfl | rfl | rfl | rfl | rfl | rfl | rfl | rfl | rfl | rfl | rfl | rfl | rfl <;> simp [go_sem]
set_option maxRecDepth 20000 in
set_option maxHeartbeats 1000000 in
theorem words_any (p : Nat → BitVec 8) (w : World) :
    Calls Tryd.prog 97 #[.agg (row 64 (yv p)).toArray] w fun e w' => e = .returned (.agg (row 64 (wv (wordsW p))).toArray) ∧ Below w.heap.size w w' := by
  have hz := zero42
  go_enter Tryd.func97, Tryd.ntmps97
  go_wp2
  go_loopw [12] (fun i wr => ∃ n : Nat, n ≤ 16 ∧ i = .int .i64 n ∧ WAt w.heap.size w p (gI p n 0) wr) (fun i _ => 16 - (intOf i).toNat)
  case atStart =>
    refine ⟨0, by omega, rfl, ?_, ?_, ?_, ?_⟩
    · exact ((RowAt.new w 64 (yv p) 134).alloc _).alloc _
    · have := (RowAt.new (w.alloc (Obj.cells (row 64 (yv p)).toArray 134)) 64 (wv fun _ => 0#32) 142).alloc (Obj.cells (row 64 (wv fun _ => 0#32)).toArray 142)
      simpa using this
    · have := RowAt.new ((w.alloc (Obj.cells (row 64 (yv p)).toArray 134)).alloc (Obj.cells (row 64 (wv fun _ => 0#32)).toArray 142)) 64 (wv fun _ => 0#32) 142
      refine RowAt.congr (g := wv fun _ => 0#32) (by simpa using this) fun j _ => ?_
      simp only [wv, gI]
      rw [if_neg (by omega)]
      split <;> rfl
    · exact (((Below.refl _ _).alloc (Nat.le_refl _) _).alloc (by simp) _).alloc (by simp; omega) _
  case round =>
    obtain ⟨n, hn, rfl, hT⟩ := hrel
    by_cases hlt : n < 16
    · have HT := hideit hT
      clear hT
      have i0 : (0 : Int) ≤ (n : Int) := by omega
      have i1 : (n : Int) < 16 := by omega
      have c1 := cut64 w.heap.size n hlt
      go_wp2
      go_loopw [22] (fun i wr => ∃ m : Nat, m ≤ 4 ∧ i = .int .i64 m ∧ WAt w.heap.size w p (gI p n m) wr) (fun i _ => 4 - (intOf i).toNat)
      case atStart => exact ⟨0, by omega, rfl, HT.out⟩
      case round =>
        obtain ⟨m, hm, rfl, hT⟩ := hrel
        clear HT
        have HT := hideit hT
        by_cases hlt2 : m < 4
        · have e1 := hT.1.1 (4 * n + m) (by omega)
          have e2 := hT.2.2.1.1 n (by omega)
          have g2 := hT.2.2.1.2.1 n (by omega)
          clear hT
          simp only [yv] at e1
          simp only [wv, gI, if_neg (Nat.lt_irrefl n), if_true] at e2
          have b1 := (p (4 * n + m)).isLt
          have b2 := (beK (fun i => p (4 * n + i)) m).isLt
          have f1 := pW_fact (beK (fun i => p (4 * n + i)) m) (p (4 * n + m))
          go_wp2
          refine ⟨⟨m + 1, by omega, by go_num, HT.out.set n _ _ fun j _ => ?_⟩, by simp [intOf]; omega⟩
          unfold gI
          by_cases h1 : j < n
          · rw [if_pos h1, if_neg (by omega), if_pos h1]
          · rw [if_neg h1, if_neg h1]
            by_cases h2 : j = n
            · rw [if_pos h2, if_pos h2]; rfl
            · rw [if_neg h2, if_neg h2, if_neg h2]
        · obtain rfl : m = 4 := by omega
          clear hT
          go_wp2
          refine ⟨⟨n + 1, by omega, by go_num, ?_⟩, by simp [intOf]; omega⟩
          obtain ⟨h1, h2, h3, h4⟩ := HT.out
          exact ⟨h1, h2, h3.congr fun j _ => by simp only [wv, gI_end], h4⟩
    · obtain rfl : n = 16 := by omega
      have HT : WAt w.heap.size w p (wK p 0) wr := by
        obtain ⟨h1, h2, h3, h4⟩ := hT
        refine ⟨h1, h2, h3.congr fun j _ => ?_, h4⟩
        simp only [wv, gI, wK]
        by_cases h1 : j < 16
        · rw [if_pos h1, if_pos h1]
        · rw [if_neg h1, if_neg h1]
          split <;> rfl
      replace HT := hideit HT
      clear hT
      go_wp2
      go_loopw [7] (fun i wr => ∃ n : Nat, 16 ≤ n ∧ n ≤ 64 ∧ i = .int .i64 (n : Int) ∧ WAt w.heap.size w p (wK p (n - 16)) wr) (fun i _ => 64 - (intOf i).toNat)
      case atStart => exact ⟨16, by omega, by omega, rfl, HT.out⟩
      case round =>
        clear HT
        obtain ⟨n, hn0, hn, rfl, hT⟩ := hrel
        have HT := hideit hT
        by_cases hlt : n < 64
        · have e1 := hT.2.2.1.1 (n - 15) (by omega)
          have e2 := hT.2.2.1.1 (n - 2) (by omega)
          clear hT
          simp only [wv] at e1 e2
          have i0 : (16 : Int) ≤ (n : Int) := by omega
          have i1 : (n : Int) < 64 := by omega
          go_wp2
          go_quiet (fail)
          have HD : WAt w.heap.size w p (wK p (n - 16)) (wr.drewN nq) := HT.out.ext (ext_drewN _ _)
          replace HD := hideit HD
          clear HT e1 e2
          generalize wr.drewN nq = X at *
          obtain ⟨x, hx⟩ : ∃ x, x = wK p (n - 16) (n - 15) := ⟨_, rfl⟩
          obtain ⟨y, hy⟩ : ∃ y, y = wK p (n - 16) (n - 2) := ⟨_, rfl⟩
          rw [← hx, ← hy]
          have fx := xW_fact
          have fs := sW_fact
          have f3 := hR3
          have f10 := hR10
          have HX := hideit hx
          have HYy := hideit hy
          clear hx hy
          go_upto_region 17 with (first | (go_at_call_of 98 (Value.int IntKind.i64 7); refine (right7 _ _).mono ?_; rintro e w' ⟨rfl, rfl⟩) | (go_at_call_of 98 (Value.int IntKind.i64 18); refine (right18 _ _).mono ?_; rintro e w' ⟨rfl, rfl⟩) | (go_at_call_of 98 (Value.int IntKind.i64 17); refine (right17 _ _).mono ?_; rintro e w' ⟨rfl, rfl⟩) | (go_at_call_of 98 (Value.int IntKind.i64 19); refine (right19 _ _).mono ?_; rintro e w' ⟨rfl, rfl⟩))
          have e3 := HD.out.2.2.1.kept (n - 16) (by omega)
          have e4 := HD.out.2.2.1.kept (n - 7) (by omega)
          simp only [wv] at e3 e4
          have hne := kept_ne w'.drew
          refine wp_region_late 15 (by kernel_rfl) (by kernel_rfl) (by decide) ?_
          simp only [List.take_succ_cons, List.take_zero, List.drop_succ_cons, List.drop_zero]
          refine wpStrong_run 15 rfl ?_
          simp only [List.take_succ_cons, List.take_zero, List.drop_succ_cons, List.drop_zero]
          repeat (go_big_quiet_step (fail))
          refine wpQuiet_nil ?_
          refine wpStrong_nil ?_
          intro Y hY
          have HY := hideit (HD.out.drew.ext hY)
          clear e3 e4 hne hY HD
          have e5 := HY.out.2.2.1.1 n (by omega)
          have g5 := HY.out.2.2.1.2.1 n (by omega)
          go_wp2
          have HI : WAt w.heap.size w p (wK p (n + 1 - 16)) (Y.setCell ⟨w.heap.size + 1 + 1, n, none⟩ (.int .u32 ((sW (sW (sW (wK p (n - 16) (n - 16)) (nearW x)) (wK p (n - 16) (n - 7))) (farW y)).toNat : Int))) := by
            refine HY.out.set n _ _ fun j _ => ?_
            rw [show n + 1 - 16 = (n - 16) + 1 by omega]
            simp only [wK, show 16 + (n - 16) = n by omega, nextW]
            rw [HX.out, HYy.out]
          replace HI := hideit HI
          go_roundw
          case rel =>
            first | exact ⟨(n + 1 : Nat), by omega, by omega, by go_num, HI.out⟩ | ((repeat apply Exists.intro); exact ⟨⟨n + 1, by omega, by omega, by go_num, HI.out⟩, rfl⟩)
          case measure => simp [intOf]; omega
        · obtain rfl : n = 64 := by omega
          have HR := hideit (show RowAt (w.heap.size + 1 + 1) 64 (wv (wordsW p)) wr from hT.2.2.1)
          have HR0 := hideit hT.2.1
          have hB := hideit hT.2.2.2
          clear hT HT
          go_wp2_with (first | (refine wpList_load_mid rfl 142 (.tmp 3) rfl _ 0 rfl (row 64 (wv (wordsW p))) _ HR.out.range Tryd.underlying142 rfl (by rw [row_length]; exact info42) ?_) | (refine wpList_store_mid rfl 142 (.tmp 2) (.tmp 80) rfl _ 0 (row 64 (wv (wordsW p))).toArray rfl rfl (by rw [row_size]; exact HR0.out.there) (by rw [row_size]; exact info42) (row_one fun _ _ => rfl) ?_))
          exact bodyPost_ret (ret_row Tryd.results97 rfl (HR0.out.cells (g' := wv (wordsW p))) Tryd.underlying142 rfl info42) rfl ⟨rfl, below_setCells _ (by omega) _ _ _ hB.out⟩
end Go.Proofs.YtiakkclabgelfaaDoor
