/-
  The digest's steps on words, as plain functions; how the walk spells them. wordsOf: the words of a piece, for every piece, in every world, of which nothing that was there turns. Block: the state behind a piece, for every state and piece, in every world that holds the constants, of which nothing that was there turns.
-/
import Derived.Test.YtfpfgbhdehbggaaGreatDoorQb2
import Derived.Deep.RegionWith
import Derived.Deep.CutRange
namespace Go.Proofs.YtfpfgbhdehbggaaGreatDoor
set_option maxRecDepth 20000
open Go.RowKit Go.BigFrame
def xW (a b : BitVec 32) : BitVec 32 := a ^^^ b
def aW (a b : BitVec 32) : BitVec 32 := a &&& b
def oW (a b : BitVec 32) : BitVec 32 := a ||| b
def nW (a : BitVec 32) : BitVec 32 := ~~~a
def sW (a b : BitVec 32) : BitVec 32 := a + b
def hR (n : Nat) (a : BitVec 32) : BitVec 32 := a >>> n
theorem xW_fact (a b : BitVec 32) : bits .xor .u32 (a.toNat : Int) (b.toNat : Int) = ((xW a b).toNat : Int) := by
  unfold xW; rw [u32_xor_nat _ _ a.isLt b.isLt, BitVec.toNat_xor]
theorem aW_fact (a b : BitVec 32) : bits .and .u32 (a.toNat : Int) (b.toNat : Int) = ((aW a b).toNat : Int) := by
  unfold aW; rw [u32_and_nat _ _ a.isLt b.isLt, BitVec.toNat_and]
theorem oW_fact (a b : BitVec 32) : bits .or .u32 (a.toNat : Int) (b.toNat : Int) = ((oW a b).toNat : Int) := by
  unfold oW; rw [u32_or_nat _ _ a.isLt b.isLt, BitVec.toNat_or]
theorem nW_fact (a : BitVec 32) : bits .xor .u32 (if IntKind.u32.signed = true then -1 else IntKind.u32.max) (a.toNat : Int) = ((nW a).toNat : Int) := by
  have h1 : (if IntKind.u32.signed = true then (-1 : Int) else IntKind.u32.max) = ((4294967295 : Nat) : Int) := by decide
  rw [h1, u32_xor_nat _ _ (by decide) a.isLt]
  unfold nW
  have h2 : (4294967295 : Nat) = (BitVec.allOnes 32).toNat := by decide
  rw [h2, ← BitVec.toNat_xor, BitVec.allOnes_xor]
theorem sW_fact (a b : BitVec 32) : ((a.toNat : Int) + (b.toNat : Int)) % 4294967296 = ((sW a b).toNat : Int) := by
  unfold sW; rw [BitVec.toNat_add]; omega
theorem hR_fact (a : BitVec 32) (n : Nat) : ((a.toNat : Int) / ((2 ^ n : Nat) : Int)) = ((hR n a).toNat : Int) := by
  unfold hR; rw [BitVec.toNat_ushiftRight, Nat.shiftRight_eq_div_pow]; rfl
theorem hR3 (a : BitVec 32) : (a.toNat : Int) / 8 = ((hR 3 a).toNat : Int) := hR_fact a 3
theorem hR10 (a : BitVec 32) : (a.toNat : Int) / 1024 = ((hR 10 a).toNat : Int) := hR_fact a 10
def pW (a : BitVec 32) (b : BitVec 8) : BitVec 32 := a <<< 8 ||| b.setWidth 32
theorem pW_fact (a : BitVec 32) (b : BitVec 8) : bits .or .u32 ((a.toNat : Int) * 256 % 4294967296) (b.toNat : Int) = ((pW a b).toNat : Int) := by
  have h1 : ((a.toNat : Int) * 256 % 4294967296) = ((a.toNat * 256 % 4294967296 : Nat) : Int) := by omega
  have hb := b.isLt
  rw [h1, u32_or_nat _ _ (Nat.mod_lt _ (by decide)) (by omega)]
  unfold pW
  rw [BitVec.toNat_or, BitVec.toNat_shiftLeft, BitVec.toNat_setWidth, Nat.shiftLeft_eq, Nat.mod_eq_of_lt (show b.toNat < 2 ^ 32 by omega)]
def beK (p : Nat → BitVec 8) : Nat → BitVec 32
  | 0 => 0#32
  | m + 1 => pW (beK p m) (p m)
def w0 (p : Nat → BitVec 8) (t : Nat) : BitVec 32 := beK (fun j => p (4 * t + j)) 4
def nearW (x : BitVec 32) : BitVec 32 := xW (xW (rR 7 x) (rR 18 x)) (hR 3 x)
def farW (y : BitVec 32) : BitVec 32 := xW (xW (rR 17 y) (rR 19 y)) (hR 10 y)
def nextW (W : Nat → BitVec 32) (t : Nat) : BitVec 32 := sW (sW (sW (W (t - 16)) (nearW (W (t - 15)))) (W (t - 7))) (farW (W (t - 2)))
def wK (p : Nat → BitVec 8) : Nat → Nat → BitVec 32
  | 0, j => if j < 16 then w0 p j else 0#32
  | m + 1, j => if j = 16 + m then nextW (wK p m) (16 + m) else wK p m j
def wordsW (p : Nat → BitVec 8) : Nat → BitVec 32 := wK p 48
def kL : List Nat := [1116352408, 1899447441, 3049323471, 3921009573, 961987163, 1508970993, 2453635748, 2870763221, 3624381080, 310598401, 607225278, 1426881987, 1925078388, 2162078206, 2614888103, 3248222580, 3835390401, 4022224774, 264347078, 604807628, 770255983, 1249150122, 1555081692, 1996064986, 2554220882, 2821834349, 2952996808, 3210313671, 3336571891, 3584528711, 113926993, 338241895, 666307205, 773529912, 1294757372, 1396182291, 1695183700, 1986661051, 2177026350, 2456956037, 2730485921, 2820302411, 3259730800, 3345764771, 3516065817, 3600352804, 4094571909, 275423344, 430227734, 506948616, 659060556, 883997877, 958139571, 1322822218, 1537002063, 1747873779, 1955562222, 2024104815, 2227730452, 2361852424, 2428436474, 2756734187, 3204031479, 3329325298]
def kT (j : Nat) : BitVec 32 := BitVec.ofNat 32 (kL.getD j 0)
def oneW (e f g h k w : BitVec 32) : BitVec 32 := sW (sW (sW (sW h (xW (xW (rR 6 e) (rR 11 e)) (rR 25 e))) (oW (aW e f) (aW (nW e) g))) k) w
def twoW (a b c : BitVec 32) : BitVec 32 := sW (xW (xW (rR 2 a) (rR 13 a)) (rR 22 a)) (oW (oW (aW a b) (aW a c)) (aW b c))
def rnd (k w : BitVec 32) (s : Nat → BitVec 32) : Nat → BitVec 32
  | 0 => sW (oneW (s 4) (s 5) (s 6) (s 7) k w) (twoW (s 0) (s 1) (s 2))
  | 4 => sW (s 3) (oneW (s 4) (s 5) (s 6) (s 7) k w)
  | j + 1 => s j
def rndK (W s : Nat → BitVec 32) : Nat → Nat → BitVec 32
  | 0 => s
  | n + 1 => rnd (kT n) (W n) (rndK W s n)
def blockF (s : Nat → BitVec 32) (p : Nat → BitVec 8) (j : Nat) : BitVec 32 := sW (s j) (rndK (wordsW p) s 64 j)
theorem xor_ch (e f g : BitVec 32) : xW (aW e f) (aW (nW e) g) = oW (aW e f) (aW (nW e) g) := by
  unfold xW aW nW oW
  apply BitVec.eq_of_getLsbD_eq
  intro i hi
  simp only [BitVec.getLsbD_xor, BitVec.getLsbD_and, BitVec.getLsbD_or, BitVec.getLsbD_not, hi]
  cases e.getLsbD i <;> cases f.getLsbD i <;> cases g.getLsbD i <;> rfl
theorem xor_maj (a b c : BitVec 32) : xW (xW (aW a b) (aW a c)) (aW b c) = oW (oW (aW a b) (aW a c)) (aW b c) := by
  unfold xW aW oW
  apply BitVec.eq_of_getLsbD_eq
  intro i hi
  simp only [BitVec.getLsbD_xor, BitVec.getLsbD_and, BitVec.getLsbD_or]
  cases a.getLsbD i <;> cases b.getLsbD i <;> cases c.getLsbD i <;> rfl
theorem sW_comm (a b : BitVec 32) : sW a b = sW b a := BitVec.add_comm a b
theorem zero42 (w : World) : Sem.run Tryz.prog (zeroValue 149) w = .ok (.agg (row 64 (wv fun _ => 0#32)).toArray) w := by kernel_rfl
theorem zero28 (w : World) : Sem.run Tryz.prog (zeroValue 141) w = .ok (.agg (row 8 (wv fun _ => 0#32)).toArray) w := by kernel_rfl
theorem zero29 (w : World) : Sem.run Tryz.prog (zeroValue 26) w = .ok (.agg (row 64 (yv fun _ => 0#8)).toArray) w := by kernel_rfl
theorem zero24 (w : World) : Sem.run Tryz.prog (zeroValue 22) w = .ok (.agg (row 32 (yv fun _ => 0#8)).toArray) w := by kernel_rfl
theorem info42 : (Tryz.prog.info? 149).map (·.size) = some 64 := by kernel_rfl
theorem info28 : (Tryz.prog.info? 141).map (·.size) = some 8 := by kernel_rfl
theorem info29 : (Tryz.prog.info? 26).map (·.size) = some 64 := by kernel_rfl
theorem info24 : (Tryz.prog.info? 22).map (·.size) = some 32 := by kernel_rfl
end Go.Proofs.YtfpfgbhdehbggaaGreatDoor
namespace Go.Proofs.YtfpfgbhdehbggaaGreatDoor
set_option maxRecDepth 20000
open Go.RowKit Go.BigFrame
def WAt (B : Nat) (w : World) (p : Nat → BitVec 8) (g : Nat → BitVec 32) (X : World) : Prop :=
  RowAt B 64 (yv p) X ∧ RowAt (B + 1) 64 (wv fun _ => 0#32) X ∧ RowAt (B + 1 + 1) 64 (wv g) X ∧ Below B w X
theorem WAt.set {B : Nat} {w X : World} {p : Nat → BitVec 8} {g : Nat → BitVec 32} (h : WAt B w p g X) (i : Nat) (v : BitVec 32) (g' : Nat → BitVec 32) (hg : ∀ j, j < 64 → g' j = if j = i then v else g j) :
    WAt B w p g' (X.setCell ⟨B + 1 + 1, i, none⟩ (.int .u32 (v.toNat : Int))) := by
  obtain ⟨h1, h2, h3, h4⟩ := h
  refine ⟨h1.other _ _ (by simp; omega), h2.other _ _ (by simp), (h3.set i _).congr fun j hj => ?_, h4.setCell (by simp; omega) _⟩
  simp only [wv, hg j hj]
  by_cases e : j = i <;> simp [e]
theorem WAt.drew {B : Nat} {w X : World} {p : Nat → BitVec 8} {g : Nat → BitVec 32} (h : WAt B w p g X) : WAt B w p g X.drew := ⟨h.1.drew, h.2.1.drew, h.2.2.1.drew, h.2.2.2.drew⟩
theorem WAt.ext {B : Nat} {w X Y : World} {p : Nat → BitVec 8} {g : Nat → BitVec 32} (h : WAt B w p g X) (k : Ext X Y) : WAt B w p g Y :=
  ⟨h.1.carry k, h.2.1.carry k, h.2.2.1.carry k, Ext.below h.2.2.2 (Nat.le_of_lt h.1.2.2) k⟩
def gI (p : Nat → BitVec 8) (n m j : Nat) : BitVec 32 := if j < n then w0 p j else if j = n then beK (fun i => p (4 * n + i)) m else 0#32
theorem gI_end (p : Nat → BitVec 8) (n : Nat) : ∀ j, gI p n 4 j = gI p (n + 1) 0 j := by
  intro j
  unfold gI
  by_cases h1 : j < n
  · rw [if_pos h1, if_pos (by omega)]
  · rw [if_neg h1]
    by_cases h2 : j = n
    · subst h2; rw [if_pos rfl, if_pos (by omega)]; rfl
    · rw [if_neg h2, if_neg (by omega)]
      split <;> rfl
theorem cut64 (b n : Nat) (hn : n < 16) (X : World) : Sem.run Tryz.prog (Instr.sliceAt 26 (.pointer (some ⟨b, 0, none⟩)) (some (.int .i64 (4 * (n : Int)))) (some (.int .i64 (4 * (n : Int) + 4))) none) X = .ok (.slice (some ⟨b, 4 * n, none⟩) 4 (64 - 4 * n)) X := by
  rcases (by omega : n = 0 ∨ n = 1 ∨ n = 2 ∨ n = 3 ∨ n = 4 ∨ n = 5 ∨ n = 6 ∨ n = 7 ∨ n = 8 ∨ n = 9 ∨ n = 10 ∨ n = 11 ∨ n = 12 ∨ n = 13 ∨ n = 14 ∨ n = 15) with rfl | rfl | rfl | rfl | rfl | rfl | rfl | rfl | rfl | rfl | rfl | rfl | rfl | rfl | rfl | rfl <;> simp [go_sem]
set_option maxRecDepth 20000 in
set_option maxHeartbeats 1000000 in
theorem words_any (p : Nat → BitVec 8) (w : World) :
    Calls Tryz.prog 118 #[.agg (row 64 (yv p)).toArray] w fun e w' => e = .returned (.agg (row 64 (wv (wordsW p))).toArray) ∧ Below w.heap.size w w' := by
  have hz := zero42
  go_enter Tryz.func118, Tryz.ntmps118
  go_wp2
  go_loopw [12] (fun i wr => ∃ n : Nat, n ≤ 16 ∧ i = .int .i64 n ∧ WAt w.heap.size w p (gI p n 0) wr) (fun i _ => 16 - (intOf i).toNat)
  case atStart =>
    refine ⟨0, by omega, rfl, ?_, ?_, ?_, ?_⟩
    · exact ((RowAt.new w 64 (yv p) 26).alloc _).alloc _
    · have := (RowAt.new (w.alloc (Obj.cells (row 64 (yv p)).toArray 26)) 64 (wv fun _ => 0#32) 149).alloc (Obj.cells (row 64 (wv fun _ => 0#32)).toArray 149)
      simpa using this
    · have := RowAt.new ((w.alloc (Obj.cells (row 64 (yv p)).toArray 26)).alloc (Obj.cells (row 64 (wv fun _ => 0#32)).toArray 149)) 64 (wv fun _ => 0#32) 149
      refine RowAt.congr (g := wv fun _ => 0#32) (by simpa using this) fun j _ => ?_
      simp only [wv, gI]
      rw [if_neg (by omega)]
      split <;> rfl
    · exact (((Below.refl _ _).alloc (Nat.le_refl _) _).alloc (by simp) _).alloc (by simp; omega) _
  case round =>
    obtain ⟨n, hn, rfl, hT⟩ := hrel
    by_cases hlt : n < 16
    · have HT := hideit hT
      clear hT
      have i0 : (0 : Int) ≤ (n : Int) := by omega
      have i1 : (n : Int) < 16 := by omega
      have c1 := cut64 w.heap.size n hlt
      go_wp2
      go_loopw [22] (fun i wr => ∃ m : Nat, m ≤ 4 ∧ i = .int .i64 m ∧ WAt w.heap.size w p (gI p n m) wr) (fun i _ => 4 - (intOf i).toNat)
      case atStart => exact ⟨0, by omega, rfl, HT.out⟩
      case round =>
        obtain ⟨m, hm, rfl, hT⟩ := hrel
        clear HT
        have HT := hideit hT
        by_cases hlt2 : m < 4
        · have e1 := hT.1.1 (4 * n + m) (by omega)
          have e2 := hT.2.2.1.1 n (by omega)
          have g2 := hT.2.2.1.2.1 n (by omega)
          clear hT
          simp only [yv] at e1
          simp only [wv, gI, if_neg (Nat.lt_irrefl n), if_true] at e2
          have b1 := (p (4 * n + m)).isLt
          have b2 := (beK (fun i => p (4 * n + i)) m).isLt
          have f1 := pW_fact (beK (fun i => p (4 * n + i)) m) (p (4 * n + m))
          go_wp2
          refine ⟨⟨m + 1, by omega, by go_num, HT.out.set n _ _ fun j _ => ?_⟩, by simp [intOf]; omega⟩
          unfold gI
          by_cases h1 : j < n
          · rw [if_pos h1, if_neg (by omega), if_pos h1]
          · rw [if_neg h1, if_neg h1]
            by_cases h2 : j = n
            · rw [if_pos h2, if_pos h2]; rfl
            · rw [if_neg h2, if_neg h2, if_neg h2]
        · obtain rfl : m = 4 := by omega
          clear hT
          go_wp2
          refine ⟨⟨n + 1, by omega, by go_num, ?_⟩, by simp [intOf]; omega⟩
          obtain ⟨h1, h2, h3, h4⟩ := HT.out
          exact ⟨h1, h2, h3.congr fun j _ => by simp only [wv, gI_end], h4⟩
    · obtain rfl : n = 16 := by omega
      have HT : WAt w.heap.size w p (wK p 0) wr := by
        obtain ⟨h1, h2, h3, h4⟩ := hT
        refine ⟨h1, h2, h3.congr fun j _ => ?_, h4⟩
        simp only [wv, gI, wK]
        by_cases h1 : j < 16
        · rw [if_pos h1, if_pos h1]
        · rw [if_neg h1, if_neg h1]
          split <;> rfl
      replace HT := hideit HT
      clear hT
      go_wp2
      go_loopw [7] (fun i wr => ∃ n : Nat, 16 ≤ n ∧ n ≤ 64 ∧ i = .int .i64 (n : Int) ∧ WAt w.heap.size w p (wK p (n - 16)) wr) (fun i _ => 64 - (intOf i).toNat)
      case atStart => exact ⟨16, by omega, by omega, rfl, HT.out⟩
      case round =>
        clear HT
        obtain ⟨n, hn0, hn, rfl, hT⟩ := hrel
        have HT := hideit hT
        by_cases hlt : n < 64
        · have e1 := hT.2.2.1.1 (n - 15) (by omega)
          have e2 := hT.2.2.1.1 (n - 2) (by omega)
          clear hT
          simp only [wv] at e1 e2
          have i0 : (16 : Int) ≤ (n : Int) := by omega
          have i1 : (n : Int) < 64 := by omega
          go_wp2
          go_quiet (fail)
          have HD : WAt w.heap.size w p (wK p (n - 16)) (wr.drewN nq) := HT.out.ext (ext_drewN _ _)
          replace HD := hideit HD
          clear HT e1 e2
          generalize wr.drewN nq = X at *
          obtain ⟨x, hx⟩ : ∃ x, x = wK p (n - 16) (n - 15) := ⟨_, rfl⟩
          obtain ⟨y, hy⟩ : ∃ y, y = wK p (n - 16) (n - 2) := ⟨_, rfl⟩
          rw [← hx, ← hy]
          have fx := xW_fact
          have fs := sW_fact
          have f3 := hR3
          have f10 := hR10
          have HX := hideit hx
          have HYy := hideit hy
          clear hx hy
          go_upto_region 17 with (first | (go_at_call_of 119 (Value.int IntKind.i64 7); refine (right7 _ _).mono ?_; rintro e w' ⟨rfl, rfl⟩) | (go_at_call_of 119 (Value.int IntKind.i64 18); refine (right18 _ _).mono ?_; rintro e w' ⟨rfl, rfl⟩) | (go_at_call_of 119 (Value.int IntKind.i64 17); refine (right17 _ _).mono ?_; rintro e w' ⟨rfl, rfl⟩) | (go_at_call_of 119 (Value.int IntKind.i64 19); refine (right19 _ _).mono ?_; rintro e w' ⟨rfl, rfl⟩))
          have e3 := HD.out.2.2.1.kept (n - 16) (by omega)
          have e4 := HD.out.2.2.1.kept (n - 7) (by omega)
          simp only [wv] at e3 e4
          have hne := kept_ne w'.drew
          refine wp_region_late 15 (by kernel_rfl) (by kernel_rfl) (by decide) ?_
          simp only [List.take_succ_cons, List.take_zero, List.drop_succ_cons, List.drop_zero]
          refine wpStrong_run 15 rfl ?_
          simp only [List.take_succ_cons, List.take_zero, List.drop_succ_cons, List.drop_zero]
          repeat (go_big_quiet_step (fail))
          refine wpQuiet_nil ?_
          refine wpStrong_nil ?_
          intro Y hY
          have HY := hideit (HD.out.drew.ext hY)
          clear e3 e4 hne hY HD
          have e5 := HY.out.2.2.1.1 n (by omega)
          have g5 := HY.out.2.2.1.2.1 n (by omega)
          go_wp2
          have HI : WAt w.heap.size w p (wK p (n + 1 - 16)) (Y.setCell ⟨w.heap.size + 1 + 1, n, none⟩ (.int .u32 ((sW (sW (sW (wK p (n - 16) (n - 16)) (nearW x)) (wK p (n - 16) (n - 7))) (farW y)).toNat : Int))) := by
            refine HY.out.set n _ _ fun j _ => ?_
            rw [show n + 1 - 16 = (n - 16) + 1 by omega]
            simp only [wK, show 16 + (n - 16) = n by omega, nextW]
            rw [HX.out, HYy.out]
          replace HI := hideit HI
          go_roundw
          case rel =>
            first | exact ⟨(n + 1 : Nat), by omega, by omega, by go_num, HI.out⟩ | ((repeat apply Exists.intro); exact ⟨⟨n + 1, by omega, by omega, by go_num, HI.out⟩, rfl⟩)
          case measure => simp [intOf]; omega
        · obtain rfl : n = 64 := by omega
          have HR := hideit (show RowAt (w.heap.size + 1 + 1) 64 (wv (wordsW p)) wr from hT.2.2.1)
          have HR0 := hideit hT.2.1
          have hB := hideit hT.2.2.2
          clear hT HT
          go_wp2_with (first | (refine wpList_load_mid rfl 149 (.tmp 3) rfl _ 0 rfl (row 64 (wv (wordsW p))) _ HR.out.range Tryz.underlying149 rfl (by rw [row_length]; exact info42) ?_) | (refine wpList_store_mid rfl 149 (.tmp 2) (.tmp 80) rfl _ 0 (row 64 (wv (wordsW p))).toArray rfl rfl (by rw [row_size]; exact HR0.out.there) (by rw [row_size]; exact info42) (row_one fun _ _ => rfl) ?_))
          exact bodyPost_ret (ret_row Tryz.results118 rfl (HR0.out.cells (g' := wv (wordsW p))) Tryz.underlying149 rfl info42) rfl ⟨rfl, below_setCells _ (by omega) _ _ _ hB.out⟩
end Go.Proofs.YtfpfgbhdehbggaaGreatDoor
namespace Go.Proofs.YtfpfgbhdehbggaaGreatDoor
set_option maxRecDepth 20000
open Go.RowKit Go.BigFrame
def TabC (w : World) : Prop := (∀ j, j < 64 → w.cell? ⟨0, j, none⟩ = some (.int .u32 ((kT j).toNat : Int))) ∧ 0 < w.heap.size
theorem TabC.below {B : Nat} {w X : World} (h : TabC w) (hB : Below B w X) (h0 : 0 < B) : TabC X :=
  ⟨fun j hj => (hB.cell (p := ⟨0, j, none⟩) h0).trans (h.1 j hj), Nat.lt_of_lt_of_le h.2 hB.size⟩
theorem TabC.ext {w X : World} (h : TabC w) (hB : Ext w X) : TabC X := h.below hB h.2
def BlAt (B d : Nat) (w : World) (g W : Nat → BitVec 32) (X : World) : Prop :=
  RowAt B 8 (wv g) X ∧ RowAt (B + 1 + 1) 8 (wv fun _ => 0#32) X ∧ RowAt d 64 (wv W) X ∧ Below B w X ∧ B < d
theorem BlAt.ext {B d : Nat} {w X Y : World} {g W : Nat → BitVec 32} (h : BlAt B d w g W X) (k : Ext X Y) : BlAt B d w g W Y :=
  ⟨h.1.carry k, h.2.1.carry k, h.2.2.1.carry k, Ext.below h.2.2.2.1 (Nat.le_of_lt h.1.2.2) k, h.2.2.2.2⟩
def stK (W s : Nat → BitVec 32) (n j : Nat) : BitVec 32 := if j < n then sW (s j) (rndK W s 64 j) else s j
theorem pick8 (q : Nat → BitVec 32) (n : Nat) (hn : n < 8) (X : World) : Sem.run Tryz.prog (Instr.index 141 (.agg #[.int .u32 ((q 0).toNat : Int), .int .u32 ((q 1).toNat : Int), .int .u32 ((q 2).toNat : Int), .int .u32 ((q 3).toNat : Int), .int .u32 ((q 4).toNat : Int), .int .u32 ((q 5).toNat : Int), .int .u32 ((q 6).toNat : Int), .int .u32 ((q 7).toNat : Int)]) (.int .i64 (n : Int))) X = .ok (.int .u32 ((q n).toNat : Int)) X := by
  rcases (by omega : n = 0 ∨ n = 1 ∨ n = 2 ∨ n = 3 ∨ n = 4 ∨ n = 5 ∨ n = 6 ∨ n = 7) with rfl | rfl | rfl | rfl | rfl | rfl | rfl | rfl <;> kernel_rfl
set_option maxRecDepth 20000 in
set_option maxHeartbeats 2000000 in
theorem block_any (s : Nat → BitVec 32) (p : Nat → BitVec 8) (w : World) (hC : TabC w) :
    Calls Tryz.prog 106 #[.agg (row 8 (wv s)).toArray, .agg (row 64 (yv p)).toArray] w fun e w' => e = .returned (.agg (row 8 (wv (blockF s p))).toArray) ∧ Below w.heap.size w w' := by
  obtain ⟨W, hW⟩ : ∃ W, W = wordsW p := ⟨_, rfl⟩
  obtain ⟨R, hR⟩ : ∃ R, R = blockF s p := ⟨_, rfl⟩
  have hwo := words_any p
  rw [← hW] at hwo
  rw [← hR]
  replace hW := hideit hW
  replace hR := hideit hR
  replace hwo := hideit hwo
  have hz := zero42
  have hz8 := zero28
  have HC := hideit hC
  clear hC
  have HA : RowAt w.heap.size 8 (wv s) (((w.alloc (.cells (row 8 (wv s)).toArray 141)).alloc (.cells (row 64 (yv p)).toArray 26)).alloc (.cells (row 8 (wv fun _ => 0#32)).toArray 141)) := ((RowAt.new w 8 (wv s) 141).alloc _).alloc _
  have HP : RowAt (w.heap.size + 1) 64 (yv p) (((w.alloc (.cells (row 8 (wv s)).toArray 141)).alloc (.cells (row 64 (yv p)).toArray 26)).alloc (.cells (row 8 (wv fun _ => 0#32)).toArray 141)) := by
    have := (RowAt.new (w.alloc (.cells (row 8 (wv s)).toArray 141)) 64 (yv p) 26).alloc (.cells (row 8 (wv fun _ => 0#32)).toArray 141)
    simpa using this
  have HZ : RowAt (w.heap.size + 1 + 1) 8 (wv fun _ => 0#32) (((w.alloc (.cells (row 8 (wv s)).toArray 141)).alloc (.cells (row 64 (yv p)).toArray 26)).alloc (.cells (row 8 (wv fun _ => 0#32)).toArray 141)) := by
    have := RowAt.new ((w.alloc (.cells (row 8 (wv s)).toArray 141)).alloc (.cells (row 64 (yv p)).toArray 26)) 8 (wv fun _ => 0#32) 141
    simpa using this
  have HB : Below w.heap.size w (((w.alloc (.cells (row 8 (wv s)).toArray 141)).alloc (.cells (row 64 (yv p)).toArray 26)).alloc (.cells (row 8 (wv fun _ => 0#32)).toArray 141)) := (((Below.refl _ _).alloc (Nat.le_refl _) _).alloc (by simp) _).alloc (by simp; omega) _
  replace HA := hideit HA
  replace HP := hideit HP
  replace HZ := hideit HZ
  replace HB := hideit HB
  go_enter Tryz.func106, Tryz.ntmps106
  go_upto_region 2 with (first | (refine wpList_load_mid rfl 26 (.tmp 3) rfl _ 0 rfl (row 64 (yv p)) _ HP.out.range Tryz.underlying26 rfl (by rw [row_length]; exact info29) ?_) | (go_at_call 118; refine (hwo.out _).mono ?_; rintro e w2 ⟨rfl, hw2⟩; obtain ⟨d, hd⟩ : ∃ d, d = w2.heap.size := ⟨_, rfl⟩; have HN : RowAt d 64 (wv fun _ => 0#32) (w2.alloc (.cells (row 64 (wv fun _ => 0#32)).toArray 149)) := (by rw [hd]; exact RowAt.new w2 64 (wv fun _ => 0#32) 149); replace HN := hideit HN; have H2 := hideit hw2; clear hw2) | (rw [← hd]; refine wpList_store_mid rfl 149 (.tmp 5) (.tmp 20) rfl _ 0 (row 64 (wv (W))).toArray rfl rfl (by rw [row_size]; exact HN.out.there) (by rw [row_size]; exact info42) (row_one fun _ _ => rfl) ?_))
  have HX : BlAt w.heap.size d w s W ((w2.alloc (.cells (row 64 (wv fun _ => 0#32)).toArray 149)).setCells d 0 (row 64 (wv (W)))) ∧ TabC ((w2.alloc (.cells (row 64 (wv fun _ => 0#32)).toArray 149)).setCells d 0 (row 64 (wv (W)))) := by
    have h2 := H2.out
    have hs : w.heap.size + 1 + 1 + 1 ≤ w2.heap.size := by have := h2.size; simpa using this
    have hB2 : Below w.heap.size w w2 := Below.trans HB.out (Below.mono h2 (by simp; omega))
    have hB3 : Below w.heap.size w ((w2.alloc (.cells (row 64 (wv fun _ => 0#32)).toArray 149)).setCells d 0 (row 64 (wv (W)))) := below_setCells _ (by omega) _ _ _ (hB2.alloc (by omega) _)
    exact ⟨⟨((HA.out.carry h2).alloc _).cellsOther (by omega) _ _, ((HZ.out.carry h2).alloc _).cellsOther (by omega) _ _, HN.out.cells, hB3, by omega⟩, HC.out.below hB3 HC.out.2⟩
  obtain ⟨HX, HCX⟩ := HX
  replace HX := hideit HX
  replace HCX := hideit HCX
  clear HA HP HZ HB HN H2 hd HC hz hz8
  generalize (w2.alloc (.cells (row 64 (wv fun _ => 0#32)).toArray 149)).setCells d 0 (row 64 (wv (W))) = X at *
  have e0 := HX.out.1.1 0 (by omega)
  have e1 := HX.out.1.1 1 (by omega)
  have e2 := HX.out.1.1 2 (by omega)
  have e3 := HX.out.1.1 3 (by omega)
  have e4 := HX.out.1.1 4 (by omega)
  have e5 := HX.out.1.1 5 (by omega)
  have e6 := HX.out.1.1 6 (by omega)
  have e7 := HX.out.1.1 7 (by omega)
  simp only [wv] at e0 e1 e2 e3 e4 e5 e6 e7
  simp only [Act.put]
  go_quiet (fail)
  have HEX := hideit (ext_drewN X nq)
  clear e0 e1 e2 e3 e4 e5 e6 e7
  generalize X.drewN nq = X0 at *
  have HX0 := hideit (HX.out.ext HEX.out)
  have HCX0 := hideit (HCX.out.ext HEX.out)
  clear HX HCX HEX
  have e4 := HX0.out.1.1 4 (by omega)
  have e5 := HX0.out.1.1 5 (by omega)
  have e6 := HX0.out.1.1 6 (by omega)
  have e7 := HX0.out.1.1 7 (by omega)
  simp only [wv] at e4 e5 e6 e7
  go_wp2
  go_quiet (fail)
  have HEX := hideit (ext_drewN X0 nq)
  clear e4 e5 e6 e7
  generalize X0.drewN nq = X1 at *
  have HX1 := hideit (HX0.out.ext HEX.out)
  have HCX1 := hideit (HCX0.out.ext HEX.out)
  clear HX0 HCX0 HEX
  go_wp2
  go_loopw [6, 7, 8, 9, 10, 11, 12, 13, 37] (fun v0 v1 v2 v3 v4 v5 v6 v7 i wr => ∃ n : Nat, n ≤ 64 ∧ i = .int .i64 n ∧ v0 = .int .u32 (rndK W s n 0).toNat ∧ v1 = .int .u32 (rndK W s n 1).toNat ∧ v2 = .int .u32 (rndK W s n 2).toNat ∧ v3 = .int .u32 (rndK W s n 3).toNat ∧ v4 = .int .u32 (rndK W s n 4).toNat ∧ v5 = .int .u32 (rndK W s n 5).toNat ∧ v6 = .int .u32 (rndK W s n 6).toNat ∧ v7 = .int .u32 (rndK W s n 7).toNat ∧ BlAt w.heap.size d w s W wr ∧ TabC wr) (fun _ _ _ _ _ _ _ _ i _ => 64 - (intOf i).toNat)
  case atStart => exact ⟨0, by omega, rfl, rfl, rfl, rfl, rfl, rfl, rfl, rfl, rfl, HX1.out, HCX1.out⟩
  case round =>
    clear HX1 HCX1
    obtain ⟨n, hn, rfl, rfl, rfl, rfl, rfl, rfl, rfl, rfl, rfl, hT, hTC⟩ := hrel
    by_cases hlt : n < 64
    · have HT := hideit hT
      have HTC := hideit hTC
      have e1 := hTC.1 n hlt
      have e2 := hT.2.2.1.1 n hlt
      clear hT hTC
      simp only [wv] at e2
      have i0 : (0 : Int) ≤ (n : Int) := by omega
      have i1 : (n : Int) < 64 := by omega
      have fx := xW_fact
      have fs := sW_fact
      have fa := aW_fact
      have fo := oW_fact
      have fn := nW_fact
      have HS : Hid (∀ j, rndK W s (n + 1) j = rnd (kT n) (W n) (rndK W s n) j) := fun _ => rfl
      generalize rndK W s n = q at *
      generalize kT n = k at *
      generalize W n = x at *
      go_wp2
      go_quiet ((first | (go_at_call_of 119 (Value.int IntKind.i64 6); exact Calls.quiet_of_same (right6 _ _)) | (go_at_call_of 119 (Value.int IntKind.i64 11); exact Calls.quiet_of_same (right11 _ _)) | (go_at_call_of 119 (Value.int IntKind.i64 25); exact Calls.quiet_of_same (right25 _ _))))
      have HEX := hideit (ext_drewN wr nq)
      clear e1 e2
      generalize wr.drewN nq = Y at *
      have HY := hideit (HT.out.ext HEX.out)
      have HYC := hideit (HTC.out.ext HEX.out)
      clear HT HTC HEX
      go_wp2_with (first | (go_at_call_of 119 (Value.int IntKind.i64 2); refine (right2 _ _).mono ?_; rintro e w' ⟨rfl, rfl⟩) | (go_at_call_of 119 (Value.int IntKind.i64 13); refine (right13 _ _).mono ?_; rintro e w' ⟨rfl, rfl⟩) | (go_at_call_of 119 (Value.int IntKind.i64 22); refine (right22 _ _).mono ?_; rintro e w' ⟨rfl, rfl⟩))
      refine ⟨⟨n + 1, by omega, by go_num, by rw [HS.out, fs]; rfl, by rw [HS.out]; rfl, by rw [HS.out]; rfl, by rw [HS.out]; rfl, by rw [HS.out, fs]; rfl, by rw [HS.out]; rfl, by rw [HS.out]; rfl, by rw [HS.out]; rfl, HY.out, HYC.out⟩, by simp [intOf]; omega⟩
    · obtain rfl : n = 64 := by omega
      have HT : BlAt w.heap.size d w (stK W s 0) W wr := ⟨hT.1.congr fun j _ => by simp only [wv, stK]; rw [if_neg (by omega)], hT.2⟩
      replace HT := hideit HT
      have HQ : Hid (∀ m j, stK W s m j = if j < m then sW (s j) (rndK W s 64 j) else s j) := fun _ _ => rfl
      have HR1 : Hid (∀ j, R j = sW (s j) (rndK W s 64 j)) := fun j => by rw [hR.out, hW.out]; rfl
      clear hT hTC hwo hR
      generalize rndK W s 64 = q at *
      generalize stK W s = u at *
      go_wp2
      go_loopw [109] (fun i wr => ∃ n : Nat, n ≤ 8 ∧ i = .int .i64 n ∧ BlAt w.heap.size d w (u n) W wr) (fun i _ => 8 - (intOf i).toNat)
      case atStart => exact ⟨0, by omega, rfl, HT.out⟩
      case round =>
        clear HT
        obtain ⟨n, hn, rfl, hT⟩ := hrel
        have HT := hideit hT
        by_cases hlt : n < 8
        · have c1 := pick8 q n hlt
          have e1 := hT.1.1 n hlt
          have g1 := hT.1.2.1 n hlt
          have hu : u n n = s n := by rw [HQ.out, if_neg (by omega)]
          clear hT
          simp only [wv, hu] at e1
          clear hu
          have i0 : (0 : Int) ≤ (n : Int) := by omega
          have i1 : (n : Int) < 8 := by omega
          have fs := sW_fact
          go_wp2
          have HI : BlAt w.heap.size d w (u (n + 1)) W (wr.setCell ⟨w.heap.size, n, none⟩ (.int .u32 ((sW (s n) (q n)).toNat : Int))) := by
            obtain ⟨h1, h2, h3, h4, h5⟩ := HT.out
            refine ⟨(h1.set n _).congr fun j _ => ?_, h2.other _ _ (by simp; omega), h3.other _ _ (by show w.heap.size ≠ d; omega), h4.setCell (by simp) _, h5⟩
            simp only [wv, HQ.out]
            by_cases e : j = n
            · subst e; rw [if_pos rfl, if_pos (by omega)]
            · rw [if_neg e]
              by_cases h : j < n
              · rw [if_pos h, if_pos (by omega)]
              · rw [if_neg h, if_neg (by omega)]
          exact ⟨⟨n + 1, by omega, by go_num, HI⟩, by simp [intOf]; omega⟩
        · obtain rfl : n = 8 := by omega
          have HR := hideit (hT.1.congr (g' := wv R) fun j hj => by simp only [wv]; rw [HQ.out, if_pos hj, HR1.out])
          have HR0 := hideit hT.2.1
          have hB := hideit hT.2.2.2.1
          clear hT HT
          go_wp2_with (first | (refine wpList_load_mid rfl 141 (.tmp 2) rfl _ 0 rfl (row 8 (wv R)) _ HR.out.range Tryz.underlying141 rfl (by rw [row_length]; exact info28) ?_) | (refine wpList_store_mid rfl 141 (.tmp 4) (.tmp 120) rfl _ 0 (row 8 (wv R)).toArray rfl rfl (by rw [row_size]; exact HR0.out.there) (by rw [row_size]; exact info28) (row_one fun _ _ => rfl) ?_))
          exact bodyPost_ret (ret_row Tryz.results106 rfl (HR0.out.cells (g' := wv R)) Tryz.underlying141 rfl info28) rfl ⟨rfl, below_setCells _ (by omega) _ _ _ hB.out⟩
end Go.Proofs.YtfpfgbhdehbggaaGreatDoor
