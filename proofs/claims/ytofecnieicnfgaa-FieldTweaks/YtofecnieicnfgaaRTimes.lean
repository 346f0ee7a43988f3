/-
  What the document's Times answers: for every two tweaks, in every world, of which nothing that was there turns: the product of the program's Times.
-/
import Derived.Test.YtofecnieicnfgaaTReg
import Derived.Deep.DeepCutAuto
namespace Go.Proofs.Ytofecnieicnfgaa
open Go.RowKit
theorem act_ext {A R : Act} (hs : A.tmps.size = R.tmps.size) (hd : A.defers = R.defers) (h : ∀ s : Nat, A.eval (.tmp s) = R.eval (.tmp s)) : A = R := by
  cases A with
  | mk at' ad =>
    cases R with
    | mk rt rd =>
      simp only at hs hd
      subst hd
      congr 1
      apply Array.ext hs
      intro i h1 h2
      have h3 := h i
      simpa [Act.eval, h1, h2] using h3
theorem defers_put (a : Act) (d : Option Nat) (v : Value) : (a.put d v).defers = a.defers := by cases d <;> rfl
theorem act_six {A A0 : Act} {p q v13 v14 v15 v16 : Value} (hz : A0.tmps.size = 95) (e5 : A.eval (.tmp 5) = p) (e6 : A.eval (.tmp 6) = q) (e13 : A.eval (.tmp 13) = v13) (e14 : A.eval (.tmp 14) = v14) (e15 : A.eval (.tmp 15) = v15) (e16 : A.eval (.tmp 16) = v16)
    (hf : ∀ (s : Nat), s ≠ 5 → s ≠ 6 → s ≠ 13 → s ≠ 14 → s ≠ 15 → s ≠ 16 → A.eval (.tmp s) = A0.eval (.tmp s)) (hs : A.tmps.size = A0.tmps.size) (hd : A.defers = A0.defers) :
    A = (((((A0.put (some 5) p).put (some 6) q).put (some 13) v13).put (some 14) v14).put (some 15) v15).put (some 16) v16 := by
  refine act_ext (by simp only [size_put]; exact hs) (by simp only [defers_put]; exact hd) ?_
  intro s
  by_cases h16 : s = 16
  · subst h16; rw [eval_put_same _ _ _ (by simp only [size_put]; omega)]; exact e16
  rw [eval_put_ne _ _ _ _ h16]
  by_cases h15 : s = 15
  · subst h15; rw [eval_put_same _ _ _ (by simp only [size_put]; omega)]; exact e15
  rw [eval_put_ne _ _ _ _ h15]
  by_cases h14 : s = 14
  · subst h14; rw [eval_put_same _ _ _ (by simp only [size_put]; omega)]; exact e14
  rw [eval_put_ne _ _ _ _ h14]
  by_cases h13 : s = 13
  · subst h13; rw [eval_put_same _ _ _ (by simp only [size_put]; omega)]; exact e13
  rw [eval_put_ne _ _ _ _ h13]
  by_cases h6 : s = 6
  · subst h6; rw [eval_put_same _ _ _ (by simp only [size_put]; omega)]; exact e6
  rw [eval_put_ne _ _ _ _ h6]
  by_cases h5 : s = 5
  · subst h5; rw [eval_put_same _ _ _ (by omega)]; exact e5
  rw [eval_put_ne _ _ _ _ h5]
  exact hf s h5 h6 h13 h14 h15 h16
def OutAt (B r s : Nat) (w : World) (p : BitVec 256) (k : Nat) (X : World) : Prop :=
  RowAt r 256 (bv (pb p)) X ∧ RowAt s 128 (bv fun j => decide (j < k) && pb p j) X ∧ TimesOk B w X ∧ B + 3 ≤ r ∧ r < s
theorem OutAt.step {B r s : Nat} {w X : World} {p : BitVec 256} {k : Nat} (h : OutAt B r s w p k X) : OutAt B r s w p (k + 1) (X.setCell ⟨s, k, none⟩ (.bool (pb p k))) := by
  obtain ⟨h1, h2, ⟨h3, h4, h5⟩, h6, h7⟩ := h
  refine ⟨h1.other _ _ (by simp; omega), (h2.set k _).congr ?_, ⟨h3.other _ _ (by omega), h4.setCell (by simp; omega) _, by simpa using h5⟩, h6, h7⟩
  intro j _
  by_cases e : j = k
  · subst e; simp [bv]
  · have : decide (j < k + 1) = decide (j < k) := by rw [decide_eq_decide]; omega
    simp [bv, e, this]
def Z256 : Array Value := (row 256 (bv fun _ => false)).toArray
theorem zero37 (w : World) : Sem.run Try.prog (zeroValue 37) w = .ok (.agg Z256) w := by kernel_rfl
theorem Z256_get (j : Nat) (hj : j < 256) : Z256[j]? = some (bv (pb 0#256) j) := by
  unfold Z256
  rw [List.getElem?_toArray, row_get 256 _ j hj]
  simp [bv, pb]
def PolyAt (B r m n : Nat) (w : World) (a b : BitVec 128) (p : BitVec 256) (X : World) : Prop :=
  RowAt m 128 (bv (tb a)) X ∧ RowAt n 128 (bv (tb b)) X ∧ RowAt r 256 (bv (pb p)) X ∧ TimesOk B w X ∧ B + 3 ≤ m ∧ B + 3 ≤ n ∧ m ≠ n ∧ m < r ∧ n < r
theorem PolyAt.set {B r m n : Nat} {w X : World} {a b : BitVec 128} {p : BitVec 256} (h : PolyAt B r m n w a b p X) (i : Nat) (hi : i < 256) (v : Bool) (hv : v = !pb p i) : PolyAt B r m n w a b (fl p i) (X.setCell ⟨r, i, none⟩ (.bool v)) := by
  obtain ⟨h1, h2, h3, ⟨h4, h5, h6⟩, h7, h8, h9, h10, h11⟩ := h
  exact ⟨h1.other _ _ (by simp; omega), h2.other _ _ (by simp; omega), (h3.set i _).congr (fun j _ => fl_set p i hi v hv j), ⟨h4.other _ _ (by omega), h5.setCell (by simp; omega) _, by simpa using h6⟩, h7, h8, h9, h10, h11⟩
set_option maxRecDepth 20000 in
set_option maxHeartbeats 4000000 in
theorem rtimes_any (a b : BitVec 128) (w : World) :
    Calls Try.prog 20 #[.agg #[.int .u64 ((lo a).toNat : Int), .int .u64 ((hi a).toNat : Int)], .agg #[.int .u64 ((lo b).toNat : Int), .int .u64 ((hi b).toNat : Int)]] w fun e w' => e = .returned (.agg #[.int .u64 ((lo (tT a b)).toNat : Int), .int .u64 ((hi (tT a b)).toNat : Int)]) ∧ Below w.heap.size w w' := by
  have hz := zero42
  go_enter Try.func20, Try.ntmps20
  go_wp2
  go_cut [5, 6] (fun p q wc => ∃ m n, p = .pointer (some ⟨m, 0, none⟩) ∧ q = .pointer (some ⟨n, 0, none⟩) ∧ TimesCut w.heap.size w a b m n wc)
  case first =>
    generalize hw : ((w.alloc (Obj.cells #[Value.int IntKind.u64 ↑(lo a).toNat, Value.int IntKind.u64 ↑(hi a).toNat] 28)).alloc
                (Obj.cells #[Value.int IntKind.u64 ↑(lo b).toNat, Value.int IntKind.u64 ↑(hi b).toNat] 28)).alloc
            (Obj.cells #[Value.int IntKind.u64 0, Value.int IntKind.u64 0] 28) = W
    have HW : HalfAt w.heap.size a W ∧ HalfAt (w.heap.size + 1) b W ∧ TimesOk w.heap.size w W := by
      subst hw
      refine ⟨⟨?_, ?_, ?_, ?_⟩, ⟨?_, ?_, ?_, ?_⟩, ⟨?_, ?_, ?_, ?_⟩, ?_, ?_⟩
      case refine_13 => exact ((((Below.refl _ _).alloc (Nat.le_refl _) _).alloc (by simp) _).alloc (by simp; omega) _)
      all_goals first | (simp [go_sem, lo, hi]; done) | (simp; omega) | simp
    clear hw
    obtain ⟨hWx, hWy, hWk⟩ := HW
    refine rtimes_region a b w W _ rfl rfl rfl hWx hWy hWk _ ?_
    intro m n A X hC e5 e6 e13 e14 e15 e16 hf hs hd
    have hAe := act_six rfl e5 e6 e13 e14 e15 e16 hf hs hd
    subst hAe
    simp only [Act.put, List.setIfInBounds_toArray, List.set_cons_zero, List.set_cons_succ]
    go_wp2_with fail
    go_meet
    exact ⟨m, n, rfl, rfl, hC⟩
  case rest =>
    obtain ⟨m, n, rfl, rfl, hC⟩ := hcut
    have hz7 := zero37
    have hP : PolyAt w.heap.size wc.heap.size m n w a b 0#256 (wc.alloc (Obj.cells Z256 37)) := by
      obtain ⟨h1, h2, h3, h4, h5, h6⟩ := hC
      exact ⟨h1.alloc _, h2.alloc _, RowAt.newOf wc 256 _ 37 Z256 (fun j hj => Z256_get j hj), h3.alloc _, h4, h5, h6, h1.2.2, h2.2.2⟩
    have HP := hideit hP
    clear hP hC
    generalize hR : wc.heap.size = r at *
    go_wp2
    go_loopw [8] (fun i wr => ∃ t : Nat, t ≤ 128 ∧ i = .int .i64 t ∧ ∃ p, ew p = tK 135#128 b a t ∧ PolyAt w.heap.size r m n w a b p wr) (fun i _ => 128 - (intOf i).toNat)
    case atStart => exact ⟨0, by omega, rfl, 0#256, tK_zero_right _ _ _, HP.out⟩
    case round =>
      clear HP
      obtain ⟨t, ht, rfl, p, hp, hT⟩ := hrel
      by_cases hlt : t < 128
      · have Hp := hideit hp
        have HT := hideit hT
        clear hp hT
        go_wp2
        go_loopw [9] (fun i wr => ∃ k : Nat, k ≤ 128 ∧ i = .int .i64 k ∧ ∃ p, ew p = sumK a b t k ∧ PolyAt w.heap.size r m n w a b p wr) (fun i _ => 128 - (intOf i).toNat)
        case atStart => exact ⟨0, by omega, rfl, p, by rw [sumK_start]; exact Hp.out, HT.out⟩
        case round =>
          clear HT Hp p
          obtain ⟨k, hk, rfl, p, hp, hT⟩ := hrel
          by_cases hlt2 : k < 128
          · have Hp := hideit hp
            have HT := hideit hT
            obtain ⟨hA, hB, hQ, _, _, _, _, _, _⟩ := hT
            have e1 := hA.1 t (by omega)
            have e2 := hB.1 k (by omega)
            have e3 := hQ.1 (t + k) (by omega)
            have g3 := hQ.2.1 (t + k) (by omega)
            simp only [bv] at e1 e2 e3
            clear hA hB hQ hp
            have i1 : (t : Int) + (k : Int) < 256 := by omega
            rcases h1 : tb a t with _ | _
            · rw [h1] at e1
              have HS := hideit (sumK_stay a b t k (by rw [h1]; rfl))
              clear h1
              go_wp2
              go_roundw
              case rel =>
                first | exact ⟨(k + 1 : Nat), by omega, by go_num, p, by rw [HS.out]; exact Hp.out, HT.out⟩ | ((repeat apply Exists.intro); exact ⟨⟨k + 1, by omega, by go_num, p, by rw [HS.out]; exact Hp.out, HT.out⟩, rfl⟩)
              case measure => simp [intOf]; omega
            · rw [h1] at e1
              rcases h2 : tb b k with _ | _
              · rw [h2] at e2
                have HS := hideit (sumK_stay a b t k (by rw [h2, h1]; rfl))
                clear h1 h2
                go_wp2
                go_roundw
                case rel =>
                  first | exact ⟨(k + 1 : Nat), by omega, by go_num, p, by rw [HS.out]; exact Hp.out, HT.out⟩ | ((repeat apply Exists.intro); exact ⟨⟨k + 1, by omega, by go_num, p, by rw [HS.out]; exact Hp.out, HT.out⟩, rfl⟩)
                case measure => simp [intOf]; omega
              · rw [h2] at e2
                have HS := hideit (sumK_flip a b t k h1 h2)
                clear h1 h2
                go_wp2
                go_roundw
                case rel =>
                  first | exact ⟨(k + 1 : Nat), by omega, by go_num, fl p (t + k), by rw [HS.out, ew_fl _ _ (by omega), Hp.out], HT.out.set (t + k) (by omega) _ rfl⟩ | ((repeat apply Exists.intro); exact ⟨⟨k + 1, by omega, by go_num, fl p (t + k), by rw [HS.out, ew_fl _ _ (by omega), Hp.out], HT.out.set (t + k) (by omega) _ rfl⟩, rfl⟩)
                case measure => simp [intOf]; omega
          · obtain rfl : k = 128 := by omega
            have Hp := hideit hp
            have HT := hideit hT
            clear hp hT
            go_wp2
            go_roundw
            case rel =>
              first | exact ⟨(t + 1 : Nat), by omega, by go_num, p, by rw [Hp.out, sumK_end], HT.out⟩ | ((repeat apply Exists.intro); exact ⟨⟨t + 1, by omega, by go_num, p, by rw [Hp.out, sumK_end], HT.out⟩, rfl⟩)
            case measure => simp [intOf]; omega
      · obtain rfl : t = 128 := by omega
        have Hp := hideit (hp.trans (tT_eq a b))
        have HT := hideit hT
        clear hp hT
        go_wp2
        go_loopw [10] (fun i wr => ∃ t : Nat, t ≤ 128 ∧ i = .int .i64 (255 - t) ∧ ∃ p, ew p = tT a b ∧ (∀ j, 256 - t ≤ j → pb p j = false) ∧ PolyAt w.heap.size r m n w a b p wr) (fun i _ => (intOf i).toNat)
        case atStart => exact ⟨0, by omega, rfl, p, Hp.out, fun j hj => BitVec.getLsbD_of_ge _ _ (by omega), HT.out⟩
        case round =>
          clear HT Hp p
          obtain ⟨t, ht, rfl, p, hp, hhi, hT⟩ := hrel
          by_cases hlt2 : t < 128
          · have Hp := hideit hp
            have Hh := hideit hhi
            have HT := hideit hT
            clear hp hhi
            obtain ⟨i, hi⟩ : ∃ i, i = 255 - t := ⟨_, rfl⟩
            have hiI : ((255 : Int) - (t : Int)) = (i : Int) := by omega
            have ht2 : t = 255 - i := by omega
            have hi1 : 128 ≤ i := by omega
            have hi2 : i < 256 := by omega
            rw [hiI]
            obtain ⟨_, _, hQ, _, _, _, _, _, _⟩ := hT
            have e0 := hQ.1 i hi2
            have e1 := hQ.1 (i - 128) (by omega)
            have e2 := hQ.1 (i - 127) (by omega)
            have e3 := hQ.1 (i - 126) (by omega)
            have e4 := hQ.1 (i - 121) (by omega)
            have f0 := hQ.2.1 i hi2
            have f1 := hQ.2.1 (i - 128) (by omega)
            have f2 := hQ.2.1 (i - 127) (by omega)
            have f3 := hQ.2.1 (i - 126) (by omega)
            have f4 := hQ.2.1 (i - 121) (by omega)
            simp only [bv] at e0 e1 e2 e3 e4
            clear hQ
            have hiI1 : (128 : Int) ≤ (i : Int) := by omega
            have hiI2 : (i : Int) < 256 := by omega
            have HI := hideit hiI
            have HT2 := hideit ht2
            clear hiI ht2 hi
            rcases h1 : pb p i with _ | _
            · rw [h1] at e0
              have H1 := hideit h1
              clear h1
              go_wp2
              go_roundw
              case rel =>
                have hn : ∀ j, 256 - (t + 1) ≤ j → pb p j = false := fun j hj => by
                  by_cases e : j = i
                  · rw [e]; exact H1.out
                  · exact Hh.out j (by have := HT2.out; omega)
                have hv : Value.int IntKind.i64 ((i : Int) - 1) = .int .i64 (255 - ((t + 1 : Nat) : Int)) := by
                  have := HI.out
                  rw [show ((i : Int) - 1) = 255 - ((t + 1 : Nat) : Int) from by omega]
                first | exact ⟨(t + 1 : Nat), by omega, hv, p, Hp.out, hn, HT.out⟩ | ((repeat apply Exists.intro); exact ⟨⟨t + 1, by omega, hv, p, Hp.out, hn, HT.out⟩, rfl⟩)
              case measure => simp [intOf]; omega
            · rw [h1] at e0
              have H1 := hideit h1
              clear h1
              go_wp2
              go_roundw
              case rel =>
                have hn : ∀ j, 256 - (t + 1) ≤ j → pb (rdP p i) j = false := fun j hj =>
                  pb_rdP p i hi1 hi2 H1.out j (by have := HT2.out; omega) (fun h => Hh.out j (by have := HT2.out; omega))
                have hv : Value.int IntKind.i64 ((i : Int) - 1) = .int .i64 (255 - ((t + 1 : Nat) : Int)) := by
                  have := HI.out
                  rw [show ((i : Int) - 1) = 255 - ((t + 1 : Nat) : Int) from by omega]
                have q1 : (!pb p (i - 128)) = !pb (fl p i) (i - 128) := by rw [pb_fl _ _ _ hi2, if_neg (by omega)]
                have q2 : (!pb p (i - 127)) = !pb (fl (fl p i) (i - 128)) (i - 127) := by rw [pb_fl _ _ _ (by omega), if_neg (by omega), pb_fl _ _ _ hi2, if_neg (by omega)]
                have q3 : (!pb p (i - 126)) = !pb (fl (fl (fl p i) (i - 128)) (i - 127)) (i - 126) := by rw [pb_fl _ _ _ (by omega), if_neg (by omega), pb_fl _ _ _ (by omega), if_neg (by omega), pb_fl _ _ _ hi2, if_neg (by omega)]
                have q4 : (!pb p (i - 121)) = !pb (fl (fl (fl (fl p i) (i - 128)) (i - 127)) (i - 126)) (i - 121) := by rw [pb_fl _ _ _ (by omega), if_neg (by omega), pb_fl _ _ _ (by omega), if_neg (by omega), pb_fl _ _ _ (by omega), if_neg (by omega), pb_fl _ _ _ hi2, if_neg (by omega)]
                have hS := ((((HT.out.set i hi2 false (by rw [H1.out]; rfl)).set (i - 128) (by omega) _ q1).set (i - 127) (by omega) _ q2).set (i - 126) (by omega) _ q3).set (i - 121) (by omega) _ q4
                first | exact ⟨(t + 1 : Nat), by omega, hv, rdP p i, by rw [ew_rdP p i hi1 hi2]; exact Hp.out, hn, hS⟩ | ((repeat apply Exists.intro); exact ⟨⟨t + 1, by omega, hv, rdP p i, by rw [ew_rdP p i hi1 hi2]; exact Hp.out, hn, hS⟩, rfl⟩)
              case measure => simp [intOf]; omega
          · obtain rfl : t = 128 := by omega
            have HF := hideit (show fb (pb p) = tT a b from fb_eq (fun j hj => by rw [← hp, ew_low p (fun j hj => hhi j (by omega)) j hj]))
            clear hp hhi
            have hO : OutAt w.heap.size r wr.heap.size w p 0 (wr.alloc (Obj.cells Z128 42)) := by
              obtain ⟨_, _, h3, h4, h5, h6, _, h8, _⟩ := hT
              exact ⟨h3.alloc _, RowAt.newOf wr 128 _ 42 Z128 (fun j hj => Z128_get j hj _ (by simp)), h4.alloc _, by omega, h3.2.2⟩
            have HO := hideit hO
            clear hO hT
            generalize hR2 : wr.heap.size = s at *
            go_wp2
            go_loopw [12] (fun i wr => ∃ k : Nat, k ≤ 128 ∧ i = .int .i64 k ∧ OutAt w.heap.size r s w p k wr) (fun i _ => 128 - (intOf i).toNat)
            case atStart => exact ⟨0, by omega, rfl, HO.out⟩
            case round =>
              clear HO
              obtain ⟨k, hk, rfl, hT⟩ := hrel
              by_cases hlt3 : k < 128
              · have HT := hideit hT
                obtain ⟨hQ, hX, _, _, _⟩ := hT
                have e1 := hQ.1 k (by omega)
                have e2 := hX.1 k (by omega)
                have g2 := hX.2.1 k (by omega)
                simp only [bv] at e1
                clear hQ hX
                go_wp2
                go_roundw
                case rel =>
                  first | exact ⟨(k + 1 : Nat), by omega, by go_num, HT.out.step⟩ | ((repeat apply Exists.intro); exact ⟨⟨k + 1, by omega, by go_num, HT.out.step⟩, rfl⟩)
                case measure => simp [intOf]; omega
              · obtain rfl : k = 128 := by omega
                obtain ⟨_, hX, hOk, hs1, hs2⟩ := hT
                have HX := hideit (hX.congr (g' := bv (pb p)) (fun j hj => by simp [bv, hj]))
                have HK := hideit hOk
                clear hX hOk
                go_wp2_with (first | (refine wpList_load_mid rfl 42 (.tmp 11) rfl _ 0 rfl (row 128 (bv (pb p))) _ HX.out.range Try.underlying42 rfl (by rw [row_length]; exact info42) ?_))
                go_wp2_with fail
                refine (frombits_any (pb p) _).mono ?_
                rintro e w2 ⟨rfl, hb2⟩
                rw [HF.out]
                have hK2 := HK.out.carry hb2
                have HBB := hideit hK2.2.1
                obtain ⟨⟨c5, c6, f5, f6⟩, _, _⟩ := hK2
                clear hb2
                go_wp2
                refine bodyPost_ret (v := .agg #[.int .u64 ((lo (tT a b)).toNat : Int), .int .u64 ((hi (tT a b)).toNat : Int)]) (by simp [results, Try.results20, go_sem, c5, c6]) rfl ⟨rfl, ?_⟩
                exact (HBB.out.setCell (by simp; omega) _).setCell (by simp; omega) _
end Go.Proofs.Ytofecnieicnfgaa
