/-
  The document's Block: the state behind a piece, for every state and piece, in every world, of which nothing that was there turns. The document's digest: of any bytes, in every world, of which nothing that was there turns.
-/
import Derived.Test.YtedgopionpdfeaaDoorQ4
import Derived.Test.YtedgopionpdfeaaDoorQ5
import Derived.Test.YtedgopionpdfeaaDoorQ8
import Derived.Test.YtedgopionpdfeaaDoorQ11
namespace Go.Proofs.YtedgopionpdfeaaDoor
open Go.RowKit Go.BigFrame
def RBAt (B d : Nat) (w : World) (s : Nat → BitVec 32) (p : Nat → BitVec 8) (K W : Nat → BitVec 32) (X : World) : Prop :=
  RowAt B 8 (wv s) X ∧ RowAt (B + 1) 64 (yv p) X ∧ RowAt (B + 1 + 1) 8 (wv fun _ => 0#32) X ∧ RowAt d 64 (wv K) X ∧ RowAt (d + 1) 64 (wv W) X ∧ Below B w X ∧ B + 3 ≤ d
section
variable {B d : Nat} {w X Y : World} {s K W : Nat → BitVec 32} {p : Nat → BitVec 8}
theorem RBAt.ext (h : RBAt B d w s p K W X) (k : Ext X Y) : RBAt B d w s p K W Y :=
  ⟨h.1.carry k, h.2.1.carry k, h.2.2.1.carry k, h.2.2.2.1.carry k, h.2.2.2.2.1.carry k, Ext.below h.2.2.2.2.2.1 (Nat.le_of_lt h.1.2.2) k, h.2.2.2.2.2.2⟩
theorem RBAt.drew (h : RBAt B d w s p K W X) : RBAt B d w s p K W X.drew := h.ext (Ext.refl X).draw
theorem RBAt.set (h : RBAt B d w s p K W X) (i : Nat) (v : BitVec 32) (W' : Nat → BitVec 32) (hg : ∀ j, j < 64 → W' j = if j = i then v else W j) :
    RBAt B d w s p K W' (X.setCell ⟨d + 1, i, none⟩ (.int .u32 (v.toNat : Int))) := by
  obtain ⟨h1, h2, h3, h4, h5, h6, h7⟩ := h
  refine ⟨h1.other _ _ (by simp; omega), h2.other _ _ (by simp; omega), h3.other _ _ (by simp; omega), h4.other _ _ (by simp), (h5.set i _).congr fun j hj => ?_, h6.setCell (by simp; omega) _, h7⟩
  simp only [wv, hg j hj]
  by_cases e : j = i <;> simp [e]
end
/-- four bytes as a word, as the document puts them together -/
def or4 (a b c d : BitVec 8) : BitVec 32 := (a.setWidth 32 <<< 24 ||| b.setWidth 32 <<< 16) ||| c.setWidth 32 <<< 8 ||| d.setWidth 32
theorem or4_w0 (p : Nat → BitVec 8) (t : Nat) : or4 (p (4 * t)) (p (4 * t + 1)) (p (4 * t + 2)) (p (4 * t + 3)) = w0 p t := by
  unfold w0 or4
  simp only [beK, pW, Nat.add_zero]
  generalize p (4 * t) = a
  generalize p (4 * t + 1) = b
  generalize p (4 * t + 2) = c
  generalize p (4 * t + 3) = d
  rw [BitVec.zero_shiftLeft, BitVec.zero_or]
  simp only [BitVec.shiftLeft_or_distrib, ← BitVec.shiftLeft_add]
theorem or4_fact (a b c d : BitVec 8) : bits .or .u32 (bits .or .u32 (bits .or .u32 ((a.toNat : Int) * 16777216) ((b.toNat : Int) * 65536)) ((c.toNat : Int) * 256)) (d.toNat : Int) = ((or4 a b c d).toNat : Int) := by
  have ha := a.isLt
  have hb := b.isLt
  have hc := c.isLt
  have hd := d.isLt
  have e1 : (a.toNat : Int) * (16777216 : Int) = ((a.setWidth 32 <<< 24).toNat : Int) := by
    rw [BitVec.toNat_shiftLeft, BitVec.toNat_setWidth, Nat.shiftLeft_eq]; omega
  have e2 : (b.toNat : Int) * (65536 : Int) = ((b.setWidth 32 <<< 16).toNat : Int) := by
    rw [BitVec.toNat_shiftLeft, BitVec.toNat_setWidth, Nat.shiftLeft_eq]; omega
  have e3 : (c.toNat : Int) * (256 : Int) = ((c.setWidth 32 <<< 8).toNat : Int) := by
    rw [BitVec.toNat_shiftLeft, BitVec.toNat_setWidth, Nat.shiftLeft_eq]; omega
  have e4 : (d.toNat : Int) = ((d.setWidth 32).toNat : Int) := by rw [BitVec.toNat_setWidth]; omega
  rw [e1, e2, e3, e4, oW_fact, oW_fact, oW_fact]
  rfl
def gR (p : Nat → BitVec 8) (n j : Nat) : BitVec 32 := if j < n then w0 p j else 0#32
set_option maxRecDepth 20000 in
set_option maxHeartbeats 4000000 in
theorem rblock_any (s : Nat → BitVec 32) (p : Nat → BitVec 8) (w : World) :
    Calls Tryd.prog 69 #[.agg (row 8 (wv s)).toArray, .agg (row 64 (yv p)).toArray] w fun e w' => e = .returned (.agg (row 8 (wv (blockF s p))).toArray) ∧ Below w.heap.size w w' := by
  obtain ⟨R, hR⟩ : ∃ R, R = blockF s p := ⟨_, rfl⟩
  obtain ⟨K, hK⟩ : ∃ K, K = kT := ⟨_, rfl⟩
  have hco := consts_any
  rw [← hK] at hco
  rw [← hR]
  replace hR := hideit hR
  replace hK := hideit hK
  replace hco := hideit hco
  have hz := zero42
  have hz8 := zero28
  have HA : RowAt w.heap.size 8 (wv s) (((w.alloc (.cells (row 8 (wv s)).toArray 95)).alloc (.cells (row 64 (yv p)).toArray 97)).alloc (.cells (row 8 (wv fun _ => 0#32)).toArray 95)) := ((RowAt.new w 8 (wv s) 95).alloc _).alloc _
  have HP : RowAt (w.heap.size + 1) 64 (yv p) (((w.alloc (.cells (row 8 (wv s)).toArray 95)).alloc (.cells (row 64 (yv p)).toArray 97)).alloc (.cells (row 8 (wv fun _ => 0#32)).toArray 95)) := by
    have := (RowAt.new (w.alloc (.cells (row 8 (wv s)).toArray 95)) 64 (yv p) 97).alloc (.cells (row 8 (wv fun _ => 0#32)).toArray 95)
    simpa using this
  have HZ : RowAt (w.heap.size + 1 + 1) 8 (wv fun _ => 0#32) (((w.alloc (.cells (row 8 (wv s)).toArray 95)).alloc (.cells (row 64 (yv p)).toArray 97)).alloc (.cells (row 8 (wv fun _ => 0#32)).toArray 95)) := by
    have := RowAt.new ((w.alloc (.cells (row 8 (wv s)).toArray 95)).alloc (.cells (row 64 (yv p)).toArray 97)) 8 (wv fun _ => 0#32) 95
    simpa using this
  have HB : Below w.heap.size w (((w.alloc (.cells (row 8 (wv s)).toArray 95)).alloc (.cells (row 64 (yv p)).toArray 97)).alloc (.cells (row 8 (wv fun _ => 0#32)).toArray 95)) := (((Below.refl _ _).alloc (Nat.le_refl _) _).alloc (by simp) _).alloc (by simp; omega) _
  replace HA := hideit HA
  replace HP := hideit HP
  replace HZ := hideit HZ
  replace HB := hideit HB
  go_enter Tryd.func69, Tryd.ntmps69
  go_upto_region 2 with (first | (go_at_call 79; refine (hco.out _).mono ?_; rintro e w2 ⟨rfl, hw2⟩; obtain ⟨d, hd⟩ : ∃ d, d = w2.heap.size := ⟨_, rfl⟩; have HN : RowAt d 64 (wv fun _ => 0#32) (w2.alloc (.cells (row 64 (wv fun _ => 0#32)).toArray 112)) := (by rw [hd]; exact RowAt.new w2 64 (wv fun _ => 0#32) 112); replace HN := hideit HN; have H2 := hideit hw2; clear hw2) | (rw [← hd]; refine wpList_store_mid rfl 112 (.tmp 5) (.tmp 18) rfl _ 0 (row 64 (wv K)).toArray rfl rfl (by rw [row_size]; exact HN.out.there) (by rw [row_size]; exact info42) (row_one fun _ _ => rfl) ?_))
  have HX : RBAt w.heap.size d w s p K (gR p 0) (((w2.alloc (.cells (row 64 (wv fun _ => 0#32)).toArray 112)).setCells d 0 (row 64 (wv K))).alloc (.cells (row 64 (wv fun _ => 0#32)).toArray 112)) ∧ ((w2.alloc (.cells (row 64 (wv fun _ => 0#32)).toArray 112)).setCells d 0 (row 64 (wv K))).heap.size = d + 1 := by
    have h2 := H2.out
    have hs : w.heap.size + 1 + 1 + 1 ≤ w2.heap.size := by have := h2.size; simpa using this
    have hB2 : Below w.heap.size w w2 := Below.trans HB.out (Below.mono h2 (by simp; omega))
    have hB3 : Below w.heap.size w ((w2.alloc (.cells (row 64 (wv fun _ => 0#32)).toArray 112)).setCells d 0 (row 64 (wv K))) := below_setCells _ (by omega) _ _ _ (hB2.alloc (by omega) _)
    have hsz : ((w2.alloc (.cells (row 64 (wv fun _ => 0#32)).toArray 112)).setCells d 0 (row 64 (wv K))).heap.size = d + 1 := by rw [size_setCells]; simp [hd]
    refine ⟨⟨(((HA.out.carry h2).alloc _).cellsOther (by omega) _ _).alloc _, (((HP.out.carry h2).alloc _).cellsOther (by omega) _ _).alloc _, (((HZ.out.carry h2).alloc _).cellsOther (by omega) _ _).alloc _, HN.out.cells.alloc _, ?_, hB3.alloc (by omega) _, by omega⟩, hsz⟩
    have := RowAt.new ((w2.alloc (.cells (row 64 (wv fun _ => 0#32)).toArray 112)).setCells d 0 (row 64 (wv K))) 64 (wv fun _ => 0#32) 112
    rw [hsz] at this
    exact this.congr fun j _ => by simp only [wv, gR]; rw [if_neg (by omega)]
  obtain ⟨HX, hsz⟩ := HX
  replace HX := hideit HX
  clear HA HP HZ HB HN H2 hd hco
  generalize (w2.alloc (.cells (row 64 (wv fun _ => 0#32)).toArray 112)).setCells d 0 (row 64 (wv K)) = X at *
  simp only [Act.put]
  go_upto_region 3 with (fail)
  clear hsz
  generalize X.alloc (.cells (row 64 (wv fun _ => 0#32)).toArray 112) = X1 at *
  go_wp2
  go_loopw [7] (fun i wr => ∃ n : Nat, n ≤ 16 ∧ i = .int .i64 n ∧ RBAt w.heap.size d w s p K (gR p n) wr) (fun i _ => 16 - (intOf i).toNat)
  case atStart => exact ⟨0, by omega, rfl, HX.out⟩
  case round =>
    clear HX
    obtain ⟨n, hn, rfl, hT⟩ := hrel
    have HT := hideit hT
    by_cases hlt : n < 16
    · have e0 := hT.2.1.kept (4 * n) (by omega)
      have e1 := hT.2.1.kept (4 * n + 1) (by omega)
      have e2 := hT.2.1.kept (4 * n + 2) (by omega)
      have e3 := hT.2.1.kept (4 * n + 3) (by omega)
      simp only [yv] at e0 e1 e2 e3
      clear hT
      have b0 := (p (4 * n)).isLt
      have b1 := (p (4 * n + 1)).isLt
      have b2 := (p (4 * n + 2)).isLt
      have b3 := (p (4 * n + 3)).isLt
      have i0 : (0 : Int) ≤ (n : Int) := by omega
      have i1 : (n : Int) < 16 := by omega
      have f4 := or4_fact (p (4 * n)) (p (4 * n + 1)) (p (4 * n + 2)) (p (4 * n + 3))
      go_wp2
      have hne := kept_ne wr.drew
      refine wp_region_late 31 (by kernel_rfl) (by kernel_rfl) (by decide) ?_
      simp only [List.take_succ_cons, List.take_zero, List.drop_succ_cons, List.drop_zero]
      refine wpStrong_run 31 rfl ?_
      simp only [List.take_succ_cons, List.take_zero, List.drop_succ_cons, List.drop_zero]
      repeat (go_big_quiet_step (fail))
      refine wpQuiet_nil ?_
      refine wpStrong_nil ?_
      intro Y hY
      have HY := hideit (HT.out.drew.ext hY)
      clear e0 e1 e2 e3 hne hY HT
      have e5 := HY.out.2.2.2.2.1.1 n (by omega)
      have g5 := HY.out.2.2.2.2.1.2.1 n (by omega)
      go_wp2
      have HI := hideit (HY.out.set n (or4 (p (4 * n)) (p (4 * n + 1)) (p (4 * n + 2)) (p (4 * n + 3))) (gR p (n + 1)) fun j _ => by
        rw [or4_w0]
        unfold gR
        by_cases e : j = n
        · subst e; rw [if_pos rfl, if_pos (by omega)]
        · rw [if_neg e]
          by_cases h : j < n
          · rw [if_pos h, if_pos (by omega)]
          · rw [if_neg h, if_neg (by omega)])
      go_roundw
      case rel =>
        first | exact ⟨(n + 1 : Nat), by omega, by go_num, HI.out⟩ | ((repeat apply Exists.intro); exact ⟨⟨n + 1, by omega, by go_num, HI.out⟩, rfl⟩)
      case measure => simp [intOf]; omega
    · obtain rfl : n = 16 := by omega
      have HT : RBAt w.heap.size d w s p K (wK p 0) wr := hT
      replace HT := hideit HT
      clear hT
      go_wp2
      go_loopw [8] (fun i wr => ∃ n : Nat, 16 ≤ n ∧ n ≤ 64 ∧ i = .int .i64 (n : Int) ∧ RBAt w.heap.size d w s p K (wK p (n - 16)) wr) (fun i _ => 64 - (intOf i).toNat)
      case atStart => exact ⟨16, by omega, by omega, rfl, HT.out⟩
      case round =>
        clear HT
        obtain ⟨n, hn0, hn, rfl, hT⟩ := hrel
        have HT := hideit hT
        by_cases hlt : n < 64
        · have e1 := hT.2.2.2.2.1.1 (n - 15) (by omega)
          have e2 := hT.2.2.2.2.1.1 (n - 2) (by omega)
          clear hT
          simp only [wv] at e1 e2
          have i0 : (16 : Int) ≤ (n : Int) := by omega
          have i1 : (n : Int) < 64 := by omega
          go_wp2
          go_quiet (fail)
          have HD := hideit (HT.out.ext (ext_drewN _ nq))
          clear HT e1 e2
          generalize wr.drewN nq = X at *
          obtain ⟨x, hx⟩ : ∃ x, x = wK p (n - 16) (n - 15) := ⟨_, rfl⟩
          obtain ⟨y, hy⟩ : ∃ y, y = wK p (n - 16) (n - 2) := ⟨_, rfl⟩
          rw [← hx, ← hy]
          have fx := xW_fact
          have fs := sW_fact
          have f3 := hR3
          have f10 := hR10
          have HX := hideit hx
          have HYy := hideit hy
          clear hx hy
          go_upto_region 11 with (fail)
          have e3 := HD.out.2.2.2.2.1.kept (n - 16) (by omega)
          have e4 := HD.out.2.2.2.2.1.kept (n - 7) (by omega)
          simp only [wv] at e3 e4
          have hne := kept_ne X.drew
          refine wp_region_late 29 (by kernel_rfl) (by kernel_rfl) (by decide) ?_
          simp only [List.take_succ_cons, List.take_zero, List.drop_succ_cons, List.drop_zero]
          refine wpStrong_run 6 rfl ?_
          simp only [List.take_succ_cons, List.take_zero, List.drop_succ_cons, List.drop_zero]
          repeat (go_big_quiet_step (fail))
          refine wpQuiet_nil ?_
          refine wpStrong_call rfl (fun X => by simp [go_sem]) (fun X hX => turn7 x X) ?_
          simp only [Act.put, List.setIfInBounds_toArray, List.set_cons_zero, List.set_cons_succ]
          refine wpStrong_run 1 rfl ?_
          simp only [List.take_succ_cons, List.take_zero, List.drop_succ_cons, List.drop_zero]
          repeat (go_big_quiet_step (fail))
          refine wpQuiet_nil ?_
          refine wpStrong_call rfl (fun X => by simp [go_sem]) (fun X hX => turn18 x X) ?_
          simp only [Act.put, List.setIfInBounds_toArray, List.set_cons_zero, List.set_cons_succ]
          refine wpStrong_run 11 rfl ?_
          simp only [List.take_succ_cons, List.take_zero, List.drop_succ_cons, List.drop_zero]
          repeat (go_big_quiet_step (fail))
          refine wpQuiet_nil ?_
          refine wpStrong_call rfl (fun X => by simp [go_sem]) (fun X hX => turn17 y X) ?_
          simp only [Act.put, List.setIfInBounds_toArray, List.set_cons_zero, List.set_cons_succ]
          refine wpStrong_run 1 rfl ?_
          simp only [List.take_succ_cons, List.take_zero, List.drop_succ_cons, List.drop_zero]
          repeat (go_big_quiet_step (fail))
          refine wpQuiet_nil ?_
          refine wpStrong_call rfl (fun X => by simp [go_sem]) (fun X hX => turn19 y X) ?_
          simp only [Act.put, List.setIfInBounds_toArray, List.set_cons_zero, List.set_cons_succ]
          refine wpStrong_run 6 rfl ?_
          simp only [List.take_succ_cons, List.take_zero, List.drop_succ_cons, List.drop_zero]
          repeat (go_big_quiet_step (fail))
          refine wpQuiet_nil ?_
          refine wpStrong_nil ?_
          intro Y hY
          have HY := hideit (HD.out.drew.ext hY)
          clear e3 e4 hne hY HD
          have e5 := HY.out.2.2.2.2.1.1 n (by omega)
          have g5 := HY.out.2.2.2.2.1.2.1 n (by omega)
          go_wp2
          have HI : RBAt w.heap.size d w s p K (wK p (n + 1 - 16)) (Y.setCell ⟨d + 1, n, none⟩ (.int .u32 ((sW (sW (sW (wK p (n - 16) (n - 16)) (nearW x)) (wK p (n - 16) (n - 7))) (farW y)).toNat : Int))) := by
            refine HY.out.set n _ _ fun j _ => ?_
            rw [show n + 1 - 16 = (n - 16) + 1 by omega]
            simp only [wK, show 16 + (n - 16) = n by omega, nextW]
            rw [HX.out, HYy.out]
          replace HI := hideit HI
          go_roundw
          case rel =>
            first | exact ⟨(n + 1 : Nat), by omega, by omega, by go_num, HI.out⟩ | ((repeat apply Exists.intro); exact ⟨⟨n + 1, by omega, by omega, by go_num, HI.out⟩, rfl⟩)
          case measure => simp [intOf]; omega
        · obtain rfl : n = 64 := by omega
          obtain ⟨W, hW⟩ : ∃ W, W = wordsW p := ⟨_, rfl⟩
          have HT2 : RBAt w.heap.size d w s p K W wr := by rw [hW]; exact hT
          replace HT2 := hideit HT2
          replace hW := hideit hW
          clear hT HT
          go_upto_region 13 with (first | (refine wpList_load_mid rfl 95 (.tmp 2) rfl _ 0 rfl (row 8 (wv s)) _ HT2.out.1.range Tryd.underlying95 rfl (by rw [row_length]; exact info28) ?_; obtain ⟨e, he⟩ : ∃ e, e = wr.heap.size := ⟨_, rfl⟩; have HN : RowAt e 8 (wv fun _ => 0#32) (wr.alloc (.cells (row 8 (wv fun _ => 0#32)).toArray 95)) := (by rw [he]; exact RowAt.new wr 8 (wv fun _ => 0#32) 95); replace HN := hideit HN) | (rw [← he]; refine wpList_store_mid rfl 95 (.tmp 11) (.tmp 95) rfl _ 0 (row 8 (wv s)).toArray rfl rfl (by rw [row_size]; exact HN.out.there) (by rw [row_size]; exact info28) (row_one fun _ _ => rfl) ?_))
          have HX : RBAt w.heap.size d w s p K W ((wr.alloc (.cells (row 8 (wv fun _ => 0#32)).toArray 95)).setCells e 0 (row 8 (wv s))) ∧ RowAt e 8 (wv (rndK W s 0)) ((wr.alloc (.cells (row 8 (wv fun _ => 0#32)).toArray 95)).setCells e 0 (row 8 (wv s))) ∧ d + 1 < e := by
            obtain ⟨h1, h2, h3, h4, h5, h6, h7⟩ := HT2.out
            have hse : d + 1 < e := by have := h5.2.2; omega
            exact ⟨⟨(h1.alloc _).cellsOther (by omega) _ _, (h2.alloc _).cellsOther (by omega) _ _, (h3.alloc _).cellsOther (by omega) _ _, (h4.alloc _).cellsOther (by omega) _ _, (h5.alloc _).cellsOther (by omega) _ _, below_setCells _ (by omega) _ _ _ (h6.alloc (by omega) _), h7⟩, HN.out.cells, hse⟩
          obtain ⟨HX, HE, hse⟩ := HX
          replace HX := hideit HX
          replace HE := hideit HE
          clear HT2 HN he hz hz8
          generalize (wr.alloc (.cells (row 8 (wv fun _ => 0#32)).toArray 95)).setCells e 0 (row 8 (wv s)) = X2 at *
          simp only [Act.put]
          go_wp2
          go_loopw [12] (fun i wr => ∃ n : Nat, n ≤ 64 ∧ i = .int .i64 n ∧ RBAt w.heap.size d w s p K W wr ∧ RowAt e 8 (wv (rndK W s n)) wr) (fun i _ => 64 - (intOf i).toNat)
          case atStart => exact ⟨0, by omega, rfl, HX.out, HE.out⟩
          case round =>
            clear HX HE
            obtain ⟨n, hn, rfl, hT, hE⟩ := hrel
            have HT := hideit hT
            by_cases hlt : n < 64
            · have HS : Hid (∀ j, rndK W s (n + 1) j = rnd (K n) (W n) (rndK W s n) j) := fun _ => by rw [hK.out]; rfl
              generalize rndK W s n = q at *
              have HE := hideit hE
              have e0 := hE.1 0 (by omega)
              have e4 := hE.1 4 (by omega)
              clear hT hE
              simp only [wv] at e0 e4
              have i0 : (0 : Int) ≤ (n : Int) := by omega
              have i1 : (n : Int) < 64 := by omega
              have fx := xW_fact
              have fs := sW_fact
              have fa := aW_fact
              have fn := nW_fact
              have fch := xor_ch (q 4) (q 5) (q 6)
              have fmj := xor_maj (q 0) (q 1) (q 2)
              go_wp2
              go_quiet (fail)
              have HY := hideit (HT.out.ext (ext_drewN _ nq))
              have HF := hideit (HE.out.carry (ext_drewN _ nq))
              clear HT HE e0 e4
              generalize wr.drewN nq = Y at *
              have e7 := HF.out.kept 7 (by omega)
              have e5 := HF.out.kept 5 (by omega)
              have e6 := HF.out.kept 6 (by omega)
              have ek := HY.out.2.2.2.1.kept n hlt
              have ew := HY.out.2.2.2.2.1.kept n hlt
              simp only [wv] at e7 e5 e6 ek ew
              go_upto_region 17 with (fail)
              have hne := kept_ne Y.drew
              refine wp_region_kept (Ok := Ext Y.drew) (by kernel_rfl) (by kernel_rfl) (Ext.refl _) ?_
              repeat (go_big_quiet_step ((rename_i q; first | (go_at_call_of 80 (Value.int IntKind.i64 6); exact (turn6 _ q.w).mono fun e w'' h => ⟨h.1, ⟨⟨w'', Ext.trans q.ok h.2⟩, rfl⟩⟩) | (go_at_call_of 80 (Value.int IntKind.i64 11); exact (turn11 _ q.w).mono fun e w'' h => ⟨h.1, ⟨⟨w'', Ext.trans q.ok h.2⟩, rfl⟩⟩) | (go_at_call_of 80 (Value.int IntKind.i64 25); exact (turn25 _ q.w).mono fun e w'' h => ⟨h.1, ⟨⟨w'', Ext.trans q.ok h.2⟩, rfl⟩⟩))))
              refine wpQuiet_nil ?_
              intro _ hw'
              obtain ⟨Z, hZ⟩ := hw'
              subst hZ
              have HY2 := hideit (HY.out.drew.ext Z.ok)
              have HF2 := hideit (HF.out.drew.carry Z.ok)
              clear HY HF e7 e5 e6 ek ew hne
              generalize Z.w = Y2 at *
              clear Z
              rename_i Y_
              have e1 := HF2.out.kept 1 (by omega)
              have e2 := HF2.out.kept 2 (by omega)
              simp only [wv] at e1 e2
              go_upto_region 18 with (fail)
              have hne := kept_ne Y2.drew
              refine wp_region_kept (Ok := Ext Y2.drew) (by kernel_rfl) (by kernel_rfl) (Ext.refl _) ?_
              repeat (go_big_quiet_step ((rename_i q; first | (go_at_call_of 80 (Value.int IntKind.i64 2); exact (turn2 _ q.w).mono fun e w'' h => ⟨h.1, ⟨⟨w'', Ext.trans q.ok h.2⟩, rfl⟩⟩) | (go_at_call_of 80 (Value.int IntKind.i64 13); exact (turn13 _ q.w).mono fun e w'' h => ⟨h.1, ⟨⟨w'', Ext.trans q.ok h.2⟩, rfl⟩⟩) | (go_at_call_of 80 (Value.int IntKind.i64 22); exact (turn22 _ q.w).mono fun e w'' h => ⟨h.1, ⟨⟨w'', Ext.trans q.ok h.2⟩, rfl⟩⟩))))
              refine wpQuiet_nil ?_
              intro _ hw'
              obtain ⟨Z, hZ⟩ := hw'
              subst hZ
              have HY3 := hideit (HY2.out.drew.ext Z.ok)
              have HF3 := hideit (HF2.out.drew.carry Z.ok)
              clear HY2 HF2 e1 e2 hne
              generalize Z.w = Y3 at *
              clear Z
              obtain ⟨g, hg⟩ : ∃ g, g = rnd (K n) (W n) q := ⟨_, rfl⟩
              obtain ⟨o1, ho1⟩ : ∃ o1, o1 = oneW (q 4) (q 5) (q 6) (q 7) (K n) (W n) := ⟨_, rfl⟩
              obtain ⟨o2, ho2⟩ : ∃ o2, o2 = twoW (q 0) (q 1) (q 2) := ⟨_, rfl⟩
              rw [fs, fs, show sW (sW (sW (sW (q 7) (xW (xW (rR 6 (q 4)) (rR 11 (q 4))) (rR 25 (q 4)))) (oW (aW (q 4) (q 5)) (aW (nW (q 4)) (q 6)))) (K n)) (W n) = o1 by rw [ho1]; rfl, show sW (xW (xW (rR 2 (q 0)) (rR 13 (q 0))) (rR 22 (q 0))) (oW (oW (aW (q 0) (q 1)) (aW (q 0) (q 2))) (aW (q 1) (q 2))) = o2 by rw [ho2]; rfl]
              have hg2 : Value.agg (row 8 (wv g)).toArray = .agg #[.int .u32 (((o1.toNat : Int) + (o2.toNat : Int)) % 4294967296), .int .u32 ((q 0).toNat : Int), .int .u32 ((q 1).toNat : Int), .int .u32 ((q 2).toNat : Int), .int .u32 ((((q 3).toNat : Int) + (o1.toNat : Int)) % 4294967296), .int .u32 ((q 4).toNat : Int), .int .u32 ((q 5).toNat : Int), .int .u32 ((q 6).toNat : Int)] := by rw [fs, fs, hg, ho1, ho2]; rfl
              clear ho1 ho2 fs fx fa fn fch fmj
              have e0 := HF3.out.1 0 (by omega)
              have f0 := HF3.out.2.1 0 (by omega)
              have e1 := HF3.out.1 1 (by omega)
              have f1 := HF3.out.2.1 1 (by omega)
              have e2 := HF3.out.1 2 (by omega)
              have f2 := HF3.out.2.1 2 (by omega)
              have e3 := HF3.out.1 3 (by omega)
              have f3 := HF3.out.2.1 3 (by omega)
              have e4 := HF3.out.1 4 (by omega)
              have f4 := HF3.out.2.1 4 (by omega)
              have e5 := HF3.out.1 5 (by omega)
              have f5 := HF3.out.2.1 5 (by omega)
              have e6 := HF3.out.1 6 (by omega)
              have f6 := HF3.out.2.1 6 (by omega)
              have e7 := HF3.out.1 7 (by omega)
              have f7 := HF3.out.2.1 7 (by omega)
              simp only [wv] at e0 e1 e2 e3 e4 e5 e6 e7
              replace hg2 := hideit hg2
              replace hg := hideit hg
              have hg3 := congrArg (fun v : Value => v.cells.toList) hg2.out
              simp only [Value.cells] at hg3
              replace hg3 := hideit hg3
              clear hg2
              go_wp2
              have HI : RBAt w.heap.size d w s p K W (Y3.setCells e 0 (row 8 (wv g))) ∧ RowAt e 8 (wv (rndK W s (n + 1))) (Y3.setCells e 0 (row 8 (wv g))) := by
                obtain ⟨h1, h2, h3, h4, h5, h6, h7⟩ := HY3.out
                refine ⟨⟨h1.cellsOther (by omega) _ _, h2.cellsOther (by omega) _ _, h3.cellsOther (by omega) _ _, h4.cellsOther (by omega) _ _, h5.cellsOther (by omega) _ _, below_setCells _ (by omega) _ _ _ h6, h7⟩, (HF3.out.cells (g' := wv g)).congr fun j _ => ?_⟩
                simp only [wv, HS.out, hg.out]
              rw [hg3.out] at HI
              obtain ⟨HI, HJ⟩ := HI
              simp only [World.setCells] at HI HJ
              replace HI := hideit HI
              replace HJ := hideit HJ
              go_roundw
              case rel =>
                first | exact ⟨(n + 1 : Nat), by omega, by go_num, HI.out, HJ.out⟩ | ((repeat apply Exists.intro); exact ⟨⟨n + 1, by omega, by go_num, HI.out, HJ.out⟩, rfl⟩)
              case measure => simp [intOf]; omega
            · obtain rfl : n = 64 := by omega
              have HQ : Hid (∀ j, R j = sW (s j) (rndK W s 64 j)) := fun j => by rw [hR.out, hW.out]; rfl
              clear hR HT
              obtain ⟨q, hq⟩ : ∃ q, q = rndK W s 64 := ⟨_, rfl⟩
              rw [← hq] at HQ hE
              clear hq
              have HT : RBAt w.heap.size d w s p K W wr ∧ RowAt e 8 (wv fun j => if j < 0 then R j else q j) wr := ⟨hT, hE.congr fun j _ => by simp only [wv]; rw [if_neg (by omega)]⟩
              replace HT := hideit HT
              clear hT hE
              go_wp2
              go_loopw [17] (fun i wr => ∃ n : Nat, n ≤ 8 ∧ i = .int .i64 n ∧ RBAt w.heap.size d w s p K W wr ∧ RowAt e 8 (wv fun j => if j < n then R j else q j) wr) (fun i _ => 8 - (intOf i).toNat)
              case atStart => exact ⟨0, by omega, rfl, HT.out⟩
              case round =>
                clear HT
                obtain ⟨n, hn, rfl, hT, hE⟩ := hrel
                have HT := hideit hT
                have HE := hideit hE
                by_cases hlt : n < 8
                · have e1 := hE.kept n hlt
                  have e2 := hT.1.kept n hlt
                  simp only [wv, if_neg (Nat.lt_irrefl n)] at e1 e2
                  clear hT hE
                  have i0 : (0 : Int) ≤ (n : Int) := by omega
                  have i1 : (n : Int) < 8 := by omega
                  have fs := sW_fact
                  go_wp2
                  have hne := kept_ne wr.drew
                  refine wp_region_late 9 (by kernel_rfl) (by kernel_rfl) (by decide) ?_
                  simp only [List.take_succ_cons, List.take_zero, List.drop_succ_cons, List.drop_zero]
                  refine wpStrong_run 9 rfl ?_
                  simp only [List.take_succ_cons, List.take_zero, List.drop_succ_cons, List.drop_zero]
                  repeat (go_big_quiet_step (fail))
                  refine wpQuiet_nil ?_
                  refine wpStrong_nil ?_
                  intro Y hY
                  have HY := hideit (HT.out.drew.ext hY)
                  have HF := hideit (HE.out.drew.carry hY)
                  clear e1 e2 hne hY HT HE
                  have e5 := HF.out.1 n hlt
                  have g5 := HF.out.2.1 n hlt
                  go_wp2
                  have HI : RBAt w.heap.size d w s p K W (Y.setCell ⟨e, n, none⟩ (.int .u32 ((sW (q n) (s n)).toNat : Int))) ∧ RowAt e 8 (wv fun j => if j < n + 1 then R j else q j) (Y.setCell ⟨e, n, none⟩ (.int .u32 ((sW (q n) (s n)).toNat : Int))) := by
                    obtain ⟨h1, h2, h3, h4, h5, h6, h7⟩ := HY.out
                    refine ⟨⟨h1.other _ _ (by show e ≠ _; omega), h2.other _ _ (by show e ≠ _; omega), h3.other _ _ (by show e ≠ _; omega), h4.other _ _ (by show e ≠ _; omega), h5.other _ _ (by show e ≠ _; omega), h6.setCell (by show _ ≤ e; omega) _, h7⟩, (HF.out.set n _).congr fun j _ => ?_⟩
                    simp only [wv]
                    by_cases h : j = n
                    · subst h; rw [if_pos rfl, if_pos (by omega), HQ.out, sW_comm]
                    · rw [if_neg h]
                      by_cases h' : j < n
                      · rw [if_pos h', if_pos (by omega)]
                      · rw [if_neg h', if_neg (by omega)]
                  obtain ⟨HI, HJ⟩ := HI
                  replace HI := hideit HI
                  replace HJ := hideit HJ
                  go_roundw
                  case rel =>
                    first | exact ⟨(n + 1 : Nat), by omega, by go_num, HI.out, HJ.out⟩ | ((repeat apply Exists.intro); exact ⟨⟨n + 1, by omega, by go_num, HI.out, HJ.out⟩, rfl⟩)
                  case measure => simp [intOf]; omega
                · obtain rfl : n = 8 := by omega
                  have HR := hideit (hE.congr (g' := wv R) fun j hj => by simp only [wv]; rw [if_pos hj])
                  have HR0 := hideit hT.2.2.1
                  have hB := hideit hT.2.2.2.2.2.1
                  clear hT HT hE HE
                  go_wp2_with (first | (refine wpList_load_mid rfl 95 (.tmp 11) rfl _ 0 rfl (row 8 (wv R)) _ HR.out.range Tryd.underlying95 rfl (by rw [row_length]; exact info28) ?_) | (refine wpList_store_mid rfl 95 (.tmp 4) (.tmp 189) rfl _ 0 (row 8 (wv R)).toArray rfl rfl (by rw [row_size]; exact HR0.out.there) (by rw [row_size]; exact info28) (row_one fun _ _ => rfl) ?_))
                  exact bodyPost_ret (ret_row Tryd.results69 rfl (HR0.out.cells (g' := wv R)) Tryd.underlying95 rfl info28) rfl ⟨rfl, below_setCells _ (by omega) _ _ _ hB.out⟩
end Go.Proofs.YtedgopionpdfeaaDoor
namespace Go.Proofs.YtedgopionpdfeaaDoor
open Go.RowKit Go.BigFrame
/-- the bytes so far, the answer's cell, all that was there -/
def SLA (B : Nat) (w : World) (F : Nat → BitVec 8) (v : Value) (n : Nat) (X : World) : Prop := OwnB (B + 1) 5 v n (yv F) X ∧ RowAt B 32 (yv fun _ => 0#8) X ∧ Ext w X ∧ w.heap.size = B
theorem SLA.grow {B : Nat} {w X Y : World} {F : Nat → BitVec 8} {v v' : Value} {n n' : Nat} (h : SLA B w F v n X) (hg : X.grownBy Y v.ownBlock) (ho : OwnB (B + 1) 5 v' n' (yv F) Y) : SLA B w F v' n' Y := by
  obtain ⟨h1, h2, h3, h4⟩ := h
  refine ⟨ho, h2.grown hg fun e => ?_, Below.trans h3 (below_grown (Below.size h3) hg fun k hk => ?_), h4⟩
  · have := (h1.lt B e.symm).1
    omega
  · have := (h1.lt k hk).1
    omega
theorem SLA.alloc {B : Nat} {w X : World} {F : Nat → BitVec 8} {v : Value} {n : Nat} (h : SLA B w F v n X) (o : Obj) : SLA B w F v n (X.alloc o) :=
  ⟨h.1.alloc o, h.2.1.alloc o, Below.alloc h.2.2.1 (Below.size h.2.2.1) o, h.2.2.2⟩
theorem SLA.ext {B : Nat} {w X Y : World} {F : Nat → BitVec 8} {v : Value} {n : Nat} (h : SLA B w F v n X) (k : Ext X Y) : SLA B w F v n Y :=
  ⟨h.1.ext k, h.2.1.carry k, Ext.trans h.2.2.1 k, h.2.2.2⟩
theorem SLA.but {B c : Nat} {w X Y : World} {F : Nat → BitVec 8} {v : Value} {n : Nat} (h : SLA B w F v n X) (k : But c X Y) (hc : v.ownBlock ≠ some c) (hB : B < c) : SLA B w F v n Y :=
  ⟨h.1.but k hc, h.2.1.but k (by omega), Below.but h.2.2.1 k (by have := h.2.2.2; omega) (Below.size h.2.2.1), h.2.2.2⟩
/-- the filled message, the state, the answer's cell -/
def L3 (B g d T : Nat) (w : World) (F : Nat → BitVec 8) (s : Nat → BitVec 32) (X : World) : Prop :=
  RowAt g T (yv F) X ∧ RowAt d 8 (wv s) X ∧ RowAt B 32 (yv fun _ => 0#8) X ∧ Ext w X ∧ w.heap.size = B ∧ B < g ∧ g < d
theorem L3.ext {B g d T : Nat} {w X Y : World} {F : Nat → BitVec 8} {s : Nat → BitVec 32} (h : L3 B g d T w F s X) (k : Ext X Y) : L3 B g d T w F s Y :=
  ⟨h.1.carry k, h.2.1.carry k, h.2.2.1.carry k, Ext.trans h.2.2.2.1 k, h.2.2.2.2⟩
theorem L3.but {B g d T c : Nat} {w X Y : World} {F : Nat → BitVec 8} {s : Nat → BitVec 32} (h : L3 B g d T w F s X) (k : But c X Y) (hc : d < c) : L3 B g d T w F s Y := by
  obtain ⟨h1, h2, h3, h4, h5, h6, h7⟩ := h
  exact ⟨h1.but k (by omega), h2.but k (by omega), h3.but k (by omega), Ext.but h4 k (by omega), h5, h6, h7⟩
theorem L3.setS {B g d T : Nat} {w X : World} {F : Nat → BitVec 8} {s : Nat → BitVec 32} (h : L3 B g d T w F s X) (s' : Nat → BitVec 32) : L3 B g d T w F s' (X.setCells d 0 (row 8 (wv s'))) := by
  obtain ⟨h1, h2, h3, h4, h5, h6, h7⟩ := h
  exact ⟨h1.cellsOther (by omega) _ _, h2.cells, h3.cellsOther (by omega) _ _, below_setCells _ (by omega) _ _ _ h4, h5, h6, h7⟩
theorem lie1 (w : World) (x : Int) (c : BitVec 8) (h : x = (c.toNat : Int)) : LieAt ⟨w.heap.size, 0, none⟩ 1 (yv fun _ => c) (w.alloc (.cells #[.int .u8 x] 5)) :=
  lieNew w 1 _ 5 _ _ fun j hj => by
    obtain rfl : j = 0 := by omega
    rw [h]
    rfl
theorem elem22 : ElemIs Tryd.prog 34 5 := elem_is Tryd.underlying34 (by kernel_rfl) (by kernel_rfl) (by kernel_rfl)
set_option maxRecDepth 20000 in
set_option maxHeartbeats 4000000 in
theorem rsum_any (l cap : Nat) (b : Nat → BitVec 8) (a : Addr) (w : World) (hb : LieAt a l (yv b) w) (hl : l ≤ 140737488351232) :
    Calls Tryd.prog 46 #[.slice (some a) l cap] w fun e w' => e = .returned (.agg (row 32 (yv (shaF b l))).toArray) ∧ Below w.heap.size w w' := by
  have hz := zero24
  have HR0 := hideit (RowAt.new w 32 (yv fun _ => 0#8) 74)
  have HE0 : Ext w (w.alloc (.cells (row 32 (yv fun _ => 0#8)).toArray 74)) := (Below.refl _ _).alloc (Nat.le_refl _) _
  replace HE0 := hideit HE0
  replace hb := hideit hb
  obtain ⟨R, hR⟩ : ∃ R, R = shaF b l := ⟨_, rfl⟩
  obtain ⟨F, hF⟩ : ∃ F, F = fillF b l := ⟨_, rfl⟩
  rw [← hR]
  replace hR := hideit hR
  replace hF := hideit hF
  have HO1 : SLA w.heap.size w F (.slice (some ⟨w.heap.size + 1, 0, none⟩) 0 0) 0 ((w.alloc (.cells (row 32 (yv fun _ => 0#8)).toArray 74)).alloc (.cells #[] 5)) := by
    have := own_empty (w.alloc (.cells (row 32 (yv fun _ => 0#8)).toArray 74)) (w.heap.size + 1) 5 (yv F) (by simp)
    exact ⟨by simpa using this, HR0.out.alloc _, Below.alloc HE0.out (Below.size HE0.out) _, rfl⟩
  replace HO1 := hideit HO1
  go_enter Tryd.func46, Tryd.ntmps46
  go_upto_region 1 with (fail)
  refine wp_region_lit ?_
  refine wpList_to rfl (.slice (some ⟨w.heap.size + 1, 0, none⟩) 0 0) ((w.alloc (.cells (row 32 (yv fun _ => 0#8)).toArray 74)).alloc (.cells #[] 5)) (by simp [go_sem]) ?_
  simp only [Act.put, List.setIfInBounds_toArray, List.set_cons_zero, List.set_cons_succ]
  refine wpList_run rfl (.slice (some a) l cap) (by simp [go_sem]) ?_
  simp only [Act.put, List.setIfInBounds_toArray, List.set_cons_zero, List.set_cons_succ]
  refine wpList_grow (n := 0) (base := w.heap.size + 1) elem22 rfl (.tmp 12) (.tmp 13) rfl rfl HO1.out.1 a l cap (yv b) (yv F) rfl (hb.out.carry HO1.out.2.2.1) (fun _ _ => rfl) (fun j hj => by omega) (fun j hj => by simp only [yv]; rw [hF.out]; unfold fillF; rw [Nat.zero_add, if_pos hj]) (by omega) (by simp) ?_
  intro v1 w1 hO1 hg1
  have HO2 : SLA w.heap.size w F v1 l w1 := HO1.out.grow hg1 (by rw [Nat.zero_add] at hO1; exact hO1)
  simp only [Act.put, List.setIfInBounds_toArray, List.set_cons_zero, List.set_cons_succ]
  replace HO2 := hideit HO2
  clear HR0 HE0 HO1
  refine wpList_to rfl (.slice (some ⟨w1.heap.size, 0, none⟩) 1 1) (w1.alloc (.cells #[.int .u8 128] 5)) (by simp [go_sem]) ?_
  simp only [Act.put, List.setIfInBounds_toArray, List.set_cons_zero, List.set_cons_succ]
  have hT : 64 * pieces l = 64 * ((l + 8) / 64) + 64 := by unfold pieces; omega
  obtain ⟨T, hTT⟩ : ∃ T, T = 64 * pieces l := ⟨_, rfl⟩
  rw [← hTT] at hT
  replace hT := hideit hT
  replace hTT := hideit hTT
  refine wpList_grow (n := l) (base := w.heap.size + 1) elem22 rfl (.tmp 14) (.tmp 15) rfl rfl (HO2.out.alloc _).1 ⟨w1.heap.size, 0, none⟩ 1 1 (yv fun _ => 128#8) (yv F) rfl (lie1 w1 128 128#8 rfl) (fun _ _ => rfl) (fun j hj => rfl) (fun j hj => by
    obtain rfl : j = 0 := by omega
    simp only [yv]; rw [hF.out]; unfold fillF; rw [Nat.add_zero, if_neg (by omega), if_pos rfl]) (by omega) (by have := Below.size HO2.out.2.2.1; simp; have := HO2.out.2.1.2.2; omega) ?_
  intro v2 w2 hO2 hg2
  have HO3 := hideit ((HO2.out.alloc _).grow hg2 hO2)
  clear hO2 hg2 HO2
  simp only [Act.put, List.setIfInBounds_toArray, List.set_cons_zero, List.set_cons_succ]
  go_wp2
  go_loopw [3] (fun v wr => ∃ n : Nat, l + 1 ≤ n ∧ n + 8 ≤ T ∧ SLA w.heap.size w F v n wr) (fun v _ => T - restOf v)
  case atStart => exact ⟨l + 1, by omega, by have := hT.out; omega, HO3.out⟩
  case round =>
    clear HO3
    obtain ⟨n, hn1, hn2, hS⟩ := hrel
    obtain ⟨g, cp, rfl, hgb, hcp, hmx, hRow⟩ := hS.1.lies (by omega)
    have HS := hideit hS
    have HT := hideit hT.out
    clear hS hRow
    have n0 : (0 : Int) ≤ (n : Int) := by omega
    by_cases hq : n % 64 = 56
    · have hq1 : (((n : Int) % 64) != 56) = false := by rw [bne_eq_false_iff_eq]; omega
      have HS1 : SLA w.heap.size w F (.slice (some ⟨g, 0, none⟩) n cp) (T - 8 + 0) wr := by
        have h1 := HT.out
        have h2 : n = T - 8 + 0 := by omega
        rw [← h2]
        exact HS.out
      replace HS1 := hideit HS1
      clear HS
      go_wp2
      go_loopw [3, 5] (fun v i wr => ∃ q : Nat, q ≤ 8 ∧ i = .int .i64 q ∧ SLA w.heap.size w F v (T - 8 + q) wr) (fun _ i _ => 8 - (intOf i).toNat)
      case atStart => exact ⟨0, by omega, rfl, HS1.out⟩
      case round =>
        clear HS1
        obtain ⟨q, hq8, rfl, hS⟩ := hrel
        obtain ⟨g', cp', rfl, hgb', hcp', hmx', hRow⟩ := hS.1.lies (by have := HT.out; omega)
        have HS := hideit hS
        have HRow := hideit hRow
        clear hS hRow
        by_cases hlt : q < 8
        · have q0 : (0 : Int) ≤ (q : Int) := by omega
          have q1 : (q : Int) < 8 := by omega
          have flen := lenB_fact l q
          go_wp2_with (at_builtin; refine wpList_grow (n := T - 8 + q) (base := w.heap.size + 1) elem22 rfl (.tmp 32) (.tmp 39) rfl rfl (HS.out.alloc _).1 ⟨wr.heap.size, 0, none⟩ 1 1 (yv fun _ => lenB l q) (yv F) rfl (lie1 wr _ (lenB l q) (by rfl)) (fun _ _ => rfl) (fun j hj => rfl) (fun j hj => by
            obtain rfl : j = 0 := by omega
            have h1 := HT.out
            simp only [yv]; rw [hF.out]; unfold fillF; rw [← hTT.out, Nat.add_zero, if_neg (by omega), if_neg (by omega), if_neg (by omega), show T - 8 + q - (T - 8) = q by omega]) (by have := HT.out; omega) (by have := Below.size HS.out.2.2.1; simp; have := HS.out.2.1.2.2; omega) ?_; intro v3 w3 hO3 hg3; have HS3 := hideit ((HS.out.alloc _).grow hg3 hO3); clear hO3 hg3 HS)
          go_roundw
          case rel =>
            first | exact ⟨(q + 1 : Nat), by omega, by go_num, HS3.out⟩ | ((repeat apply Exists.intro); exact ⟨⟨q + 1, by omega, by go_num, HS3.out⟩, rfl⟩)
          case measure => simp [intOf]; omega
        · obtain rfl : q = 8 := by omega
          have hTe : T - 8 + 8 = T := by have := HT.out; omega
          rw [hTe] at HS HRow
          obtain ⟨F0, hF0⟩ : ∃ F0, F0 = fT := ⟨_, rfl⟩
          have hrf := rfirst_any
          rw [← hF0] at hrf
          replace hrf := hideit hrf
          replace hF0 := hideit hF0
          have hz8 := zero28
          go_upto_region 10 with (first | (go_at_call 68; refine (hrf.out _).mono ?_; rintro e w4 ⟨rfl, hw4⟩; obtain ⟨d, hd⟩ : ∃ d, d = w4.heap.size := ⟨_, rfl⟩; have HN : RowAt d 8 (wv fun _ => 0#32) (w4.alloc (.cells (row 8 (wv fun _ => 0#32)).toArray 95)) := (by rw [hd]; exact RowAt.new w4 8 (wv fun _ => 0#32) 95); replace HN := hideit HN; have HS4 := hideit (HS.out.ext hw4); have HRow4 := hideit (HRow.out.carry hw4); have hgd : g' < d := (by rw [hd]; exact Nat.lt_of_lt_of_le HRow.out.2.2 (Below.size hw4)); clear hw4 HS HRow) | (rw [← hd]; refine wpList_store_mid rfl 95 (.tmp 6) (.tmp 41) rfl _ 0 (row 8 (wv F0)).toArray rfl rfl (by rw [row_size]; exact HN.out.there) (by rw [row_size]; exact info28) (row_one fun _ _ => rfl) ?_))
          have HX : L3 w.heap.size g' d T w F (chain F 0) ((w4.alloc (.cells (row 8 (wv fun _ => 0#32)).toArray 95)).setCells d 0 (row 8 (wv F0))) := by
            have hE := HS4.out.2.2.1
            have hsz := Below.size hE
            refine ⟨(HRow4.out.alloc _).cellsOther (by omega) _ _, ?_, (HS4.out.2.1.alloc _).cellsOther (by omega) _ _, below_setCells _ (by omega) _ _ _ (Below.alloc hE hsz _), rfl, by omega, hgd⟩
            show RowAt d 8 (wv fT) _
            rw [← hF0.out]
            exact HN.out.cells
          replace HX := hideit HX
          clear HS4 HRow4 HN hd hz8 hrf hF0
          generalize (w4.alloc (.cells (row 8 (wv fun _ => 0#32)).toArray 95)).setCells d 0 (row 8 (wv F0)) = X at *
          simp only [Act.put]
          have hz9 := zero29
          obtain ⟨N, hN⟩ : ∃ N, N = pieces l := ⟨_, rfl⟩
          have hTN : T = 64 * N := by rw [hTT.out, hN]
          have hTb : T ≤ 140737488355328 := by have := HT.out; omega
          replace hN := hideit hN
          replace hTN := hideit hTN
          go_wp2
          go_loopw [7] (fun i wr => ∃ k : Nat, k ≤ N ∧ i = .int .i64 ((64 * k : Nat) : Int) ∧ L3 w.heap.size g' d T w F (chain F k) wr) (fun i _ => T - (intOf i).toNat)
          case atStart => exact ⟨0, by omega, rfl, HX.out⟩
          case round =>
            clear HX
            obtain ⟨k, hk, rfl, hS⟩ := hrel
            have HS := hideit hS
            clear hS
            by_cases hlt : k < N
            · have hk1 : ((64 * k : Nat) : Int) < (T : Int) := by have := hTN.out; omega
              have hk2 : 64 * k < T := by have := hTN.out; omega
              generalize hat : 64 * k = at_ at *
              replace hat := hideit hat
              go_upto_region 14 with (fail)
              obtain ⟨pb, hpb⟩ : ∃ pb, pb = wr.heap.size := ⟨_, rfl⟩
              have HP : RowAt pb 64 (yv fun _ => 0#8) (wr.alloc (.cells (row 64 (yv fun _ => 0#8)).toArray 97)) := by rw [hpb]; exact RowAt.new wr 64 _ 97
              have HSa := hideit (HS.out.ext ((Below.refl _ _).alloc (Nat.le_refl _) (.cells (row 64 (yv fun _ => 0#8)).toArray 97)))
              have hdp : d < pb := by rw [hpb]; exact HS.out.2.1.2.2
              rw [← hpb]
              replace HP := hideit HP
              clear hpb HS
              generalize wr.alloc (.cells (row 64 (yv fun _ => 0#8)).toArray 97) = Y at *
              go_wp2
              go_loopw [9] (fun i wr => ∃ j : Nat, j ≤ 64 ∧ i = .int .i64 (j : Int) ∧ L3 w.heap.size g' d T w F (chain F k) wr ∧ RowAt pb 64 (yv fun x => if x < j then F (64 * k + x) else 0#8) wr) (fun i _ => 64 - (intOf i).toNat)
              case atStart => exact ⟨0, by omega, rfl, HSa.out, HP.out.congr fun x _ => by simp only [yv]; rw [if_neg (by omega)]⟩
              case round =>
                clear HSa HP
                obtain ⟨j, hj, rfl, hS, hP⟩ := hrel
                have HS := hideit hS
                have HP := hideit hP
                by_cases hlt2 : j < 64
                · have hat' := hat.out
                  have hTN' := hTN.out
                  have e1 := hS.1.1 (at_ + j) (by omega)
                  have e2 := hP.1 j hlt2
                  have g2 := hP.2.1 j hlt2
                  simp only [yv] at e1
                  have a2 : at_ + j < T := by omega
                  clear hS hP hat' hTN'
                  have j0 : (0 : Int) ≤ (j : Int) := by omega
                  have j1 : (j : Int) < 64 := by omega
                  have a0 : (0 : Int) ≤ (at_ : Int) := by omega
                  have a1 : (at_ : Int) + (j : Int) < (T : Int) := by omega
                  have a3 : (T : Int) ≤ 140737488355328 := by omega
                  go_wp2
                  have HI : L3 w.heap.size g' d T w F (chain F k) (wr.setCell ⟨pb, j, none⟩ (.int .u8 ((F (at_ + j)).toNat : Int))) := HS.out.but (but_setCell _ _ _ _) hdp
                  have HJ : RowAt pb 64 (yv fun x => if x < j + 1 then F (64 * k + x) else 0#8) (wr.setCell ⟨pb, j, none⟩ (.int .u8 ((F (at_ + j)).toNat : Int))) := (HP.out.set j _).congr fun x _ => by
                    simp only [yv]
                    by_cases e : x = j
                    · subst e; rw [if_pos rfl, if_pos (by omega), hat.out]
                    · rw [if_neg e]
                      by_cases h : x < j
                      · rw [if_pos h, if_pos (by omega)]
                      · rw [if_neg h, if_neg (by omega)]
                  exact ⟨⟨j + 1, by omega, by go_num, HI, HJ⟩, by simp [intOf]; omega⟩
                · obtain rfl : j = 64 := by omega
                  obtain ⟨pp, hpp⟩ : ∃ pp, pp = fun x => F (64 * k + x) := ⟨_, rfl⟩
                  have HP2 := hideit (hP.congr (g' := yv pp) fun x hx => by simp only [yv]; rw [if_pos hx, hpp])
                  have hrb := rblock_any (chain F k) pp wr
                  have hs2 : blockF (chain F k) pp = chain F (k + 1) := by rw [hpp]; rfl
                  rw [hs2] at hrb
                  clear hS hP HP hs2
                  replace hrb := hideit hrb
                  generalize hs1 : chain F (k + 1) = s1 at *
                  generalize hs0 : chain F k = s0 at *
                  replace hs1 := hideit hs1
                  clear hs0 hpp
                  go_upto_region 18 with (fail)
                  refine wp_region_lit ?_
                  refine wpList_load_mid rfl 95 (.tmp 6) rfl d 0 rfl (row 8 (wv s0)) _ HS.out.2.1.range Tryd.underlying95 rfl (by rw [row_length]; exact info28) ?_
                  refine wpList_load_mid rfl 97 (.tmp 8) rfl pb 0 rfl (row 64 (yv pp)) _ HP2.out.range Tryd.underlying97 rfl (by rw [row_length]; exact info29) ?_
                  simp only [Act.put, List.setIfInBounds_toArray, List.set_cons_zero, List.set_cons_succ]
                  refine wpList_call rfl (by simp [go_sem]) (hrb.out.mono ?_)
                  rintro e V ⟨rfl, hV⟩
                  refine ⟨_, rfl, ?_⟩
                  simp only [Act.put, List.setIfInBounds_toArray, List.set_cons_zero, List.set_cons_succ]
                  have HV := hideit (HS.out.ext hV)
                  clear hrb hV HS HP2
                  refine wpList_store_mid rfl 95 (.tmp 6) (.tmp 62) rfl d 0 (row 8 (wv s1)).toArray rfl rfl (by rw [row_size]; exact HV.out.2.1.there) (by rw [row_size]; exact info28) (row_one fun _ _ => rfl) ?_
                  have HV1 := hideit (HV.out.setS s1)
                  clear HV
                  generalize V.setCells d 0 (row 8 (wv s1)) = V1 at *
                  simp only [Act.put]
                  have a0 : (0 : Int) ≤ (at_ : Int) := by omega
                  have a3 : (at_ : Int) ≤ 140737488355328 := by omega
                  go_wp2
                  go_roundw
                  case rel =>
                    have HQ : L3 w.heap.size g' d T w F (chain F (k + 1)) V1 := by rw [hs1.out]; exact HV1.out
                    have hi : Value.int .i64 ((at_ : Int) + 64) = .int .i64 ((64 * (k + 1) : Nat) : Int) := by have := hat.out; congr 1; omega
                    first | exact ⟨(k + 1 : Nat), by omega, hi, HQ⟩ | ((repeat apply Exists.intro); exact ⟨⟨k + 1, by omega, hi, HQ⟩, rfl⟩)
                  case measure =>
                    have h1 := hat.out
                    simp [intOf]
                    omega
            · obtain rfl : k = N := by omega
              have hk1 : ¬ (((64 * k : Nat) : Int) < (T : Int)) := by have := hTN.out; omega
              have hk2 : ¬ (64 * k < T) := by have := hTN.out; omega
              generalize hat : 64 * k = at_ at *
              clear hat
              have hfin : digF (chain F k) = R := by
                rw [hR.out, hN.out, hF.out]
                rfl
              replace hfin := hideit hfin
              clear hz9
              generalize chain F k = s1 at *
              go_upto_region 20 with (fail)
              obtain ⟨ob, hob⟩ : ∃ ob, ob = wr.heap.size := ⟨_, rfl⟩
              have HP : RowAt ob 32 (yv fun _ => 0#8) (wr.alloc (.cells (row 32 (yv fun _ => 0#8)).toArray 74)) := by rw [hob]; exact RowAt.new wr 32 _ 74
              have HSa := hideit (HS.out.ext ((Below.refl _ _).alloc (Nat.le_refl _) (.cells (row 32 (yv fun _ => 0#8)).toArray 74)))
              have hdo : d < ob := by rw [hob]; exact HS.out.2.1.2.2
              rw [← hob]
              replace HP := hideit HP
              clear hob HS hz
              generalize wr.alloc (.cells (row 32 (yv fun _ => 0#8)).toArray 74) = Y at *
              go_wp2
              go_loopw [11] (fun i wr => ∃ j : Nat, j ≤ 32 ∧ i = .int .i64 (j : Int) ∧ L3 w.heap.size g' d T w F s1 wr ∧ RowAt ob 32 (yv fun x => if x < j then digF s1 x else 0#8) wr) (fun i _ => 32 - (intOf i).toNat)
              case atStart => exact ⟨0, by omega, rfl, HSa.out, HP.out.congr fun x _ => by simp only [yv]; rw [if_neg (by omega)]⟩
              case round =>
                clear HSa HP
                obtain ⟨j, hj, rfl, hS, hP⟩ := hrel
                have HS := hideit hS
                have HP := hideit hP
                by_cases hlt2 : j < 32
                · have e1 := hS.2.1.1 (j / 4) (by omega)
                  have e2 := hP.1 j hlt2
                  have g2 := hP.2.1 j hlt2
                  clear hS hP
                  simp only [wv] at e1
                  have j0 : (0 : Int) ≤ (j : Int) := by omega
                  have j1 : (j : Int) < 32 := by omega
                  have b1 := (s1 (j / 4)).isLt
                  go_wp2
                  rw [dig_fact]
                  refine ⟨⟨j + 1, by omega, by go_num, HS.out.but (but_setCell _ _ _ _) hdo, (HP.out.set j _).congr fun x _ => ?_⟩, by simp [intOf]; omega⟩
                  simp only [yv]
                  by_cases e : x = j
                  · subst e; rw [if_pos rfl, if_pos (by omega)]; rfl
                  · rw [if_neg e]
                    by_cases h : x < j
                    · rw [if_pos h, if_pos (by omega)]
                    · rw [if_neg h, if_neg (by omega)]
                · obtain rfl : j = 32 := by omega
                  have HP2 := hideit (hP.congr (g' := yv R) fun x hx => by simp only [yv]; rw [if_pos hx, hfin.out])
                  have HR0 := hideit hS.2.2.1
                  have hB := hideit hS.2.2.2.1
                  clear hS hP HS HP
                  go_wp2_with (first | (refine wpList_load_mid rfl 74 (.tmp 10) rfl _ 0 rfl (row 32 (yv R)) _ HP2.out.range Tryd.underlying74 rfl (by rw [row_length]; exact info24) ?_) | (refine wpList_store_mid rfl 74 (.tmp 2) (.tmp 79) rfl _ 0 (row 32 (yv R)).toArray rfl rfl (by rw [row_size]; exact HR0.out.there) (by rw [row_size]; exact info24) (row_one fun _ _ => rfl) ?_))
                  exact bodyPost_ret (ret_row Tryd.results46 rfl (HR0.out.cells (g' := yv R)) Tryd.underlying74 rfl info24) rfl ⟨rfl, below_setCells _ (Nat.le_refl _) _ _ _ hB.out⟩
    · have hq1 : (((n : Int) % 64) != 56) = true := by rw [bne_iff_ne]; omega
      go_upto_region 3 with (fail)
      refine wp_region_lit ?_
      refine wpList_run rfl (.slice (some ⟨g, 0, none⟩) n cp) (by simp [go_sem]) ?_
      simp only [Act.put, List.setIfInBounds_toArray, List.set_cons_zero, List.set_cons_succ]
      refine wpList_to rfl (.slice (some ⟨wr.heap.size, 0, none⟩) 1 1) (wr.alloc (.cells #[.int .u8 0] 5)) (by simp [go_sem]) ?_
      simp only [Act.put, List.setIfInBounds_toArray, List.set_cons_zero, List.set_cons_succ]
      refine wpList_grow (n := n) (base := w.heap.size + 1) elem22 rfl (.tmp 21) (.tmp 22) rfl rfl (HS.out.alloc _).1 ⟨wr.heap.size, 0, none⟩ 1 1 (yv fun _ => 0#8) (yv F) rfl (lie1 wr _ (0#8) (by rfl)) (fun _ _ => rfl) (fun j hj => rfl) (fun j hj => by
        obtain rfl : j = 0 := by omega
        simp only [yv]; rw [hF.out]; have h1 := HT.out; have h2 := hTT.out; unfold fillF; rw [Nat.add_zero, if_neg (by omega), if_neg (by omega), if_pos (by omega)]) (by have := HT.out; omega) (by have := Below.size HS.out.2.2.1; simp; have := HS.out.2.1.2.2; omega) ?_
      intro v3 w3 hO3 hg3
      have HS3 := hideit ((HS.out.alloc _).grow hg3 hO3)
      clear hO3 hg3 HS
      simp only [Act.put, List.setIfInBounds_toArray, List.set_cons_zero, List.set_cons_succ]
      go_wp2
      go_roundw
      case rel =>
        first | exact ⟨(n + 1 : Nat), by omega, by have := HT.out; omega, HS3.out⟩ | ((repeat apply Exists.intro); exact ⟨⟨n + 1, by omega, by have := HT.out; omega, HS3.out⟩, rfl⟩)
      case measure =>
        obtain ⟨g3, cp3, hv3, _⟩ := HS3.out.1.lies (by omega)
        subst hv3
        have := HT.out
        show T - (n + 1) < T - n
        omega
set_option maxRecDepth 20000 in
set_option maxHeartbeats 4000000 in
theorem rsum_none  (w : World)  :
    Calls Tryd.prog 46 #[.slice none 0 0] w fun e w' => e = .returned (.agg (row 32 (yv (shaF (fun _ => 0#8) 0))).toArray) ∧ Below w.heap.size w w' := by
  have hz := zero24
  have HR0 := hideit (RowAt.new w 32 (yv fun _ => 0#8) 74)
  have HE0 : Ext w (w.alloc (.cells (row 32 (yv fun _ => 0#8)).toArray 74)) := (Below.refl _ _).alloc (Nat.le_refl _) _
  replace HE0 := hideit HE0
  obtain ⟨R, hR⟩ : ∃ R, R = shaF (fun _ => 0#8) 0 := ⟨_, rfl⟩
  obtain ⟨F, hF⟩ : ∃ F, F = fillF (fun _ => 0#8) 0 := ⟨_, rfl⟩
  rw [← hR]
  replace hR := hideit hR
  replace hF := hideit hF
  have HO1 : SLA w.heap.size w F (.slice (some ⟨w.heap.size + 1, 0, none⟩) 0 0) 0 ((w.alloc (.cells (row 32 (yv fun _ => 0#8)).toArray 74)).alloc (.cells #[] 5)) := by
    have := own_empty (w.alloc (.cells (row 32 (yv fun _ => 0#8)).toArray 74)) (w.heap.size + 1) 5 (yv F) (by simp)
    exact ⟨by simpa using this, HR0.out.alloc _, Below.alloc HE0.out (Below.size HE0.out) _, rfl⟩
  replace HO1 := hideit HO1
  go_enter Tryd.func46, Tryd.ntmps46
  go_upto_region 1 with (fail)
  refine wp_region_lit ?_
  refine wpList_to rfl (.slice (some ⟨w.heap.size + 1, 0, none⟩) 0 0) ((w.alloc (.cells (row 32 (yv fun _ => 0#8)).toArray 74)).alloc (.cells #[] 5)) (by simp [go_sem]) ?_
  simp only [Act.put, List.setIfInBounds_toArray, List.set_cons_zero, List.set_cons_succ]
  refine wpList_run rfl (.slice none 0 0) (by simp [go_sem]) ?_
  simp only [Act.put, List.setIfInBounds_toArray, List.set_cons_zero, List.set_cons_succ]
  refine wpList_grow_none (n := 0) (base := w.heap.size + 1) elem22 rfl (.tmp 12) (.tmp 13) rfl rfl HO1.out.1 rfl ?_
  have HO2 : SLA w.heap.size w F (.slice (some ⟨w.heap.size + 1, 0, none⟩) 0 0) 0 ((w.alloc (.cells (row 32 (yv fun _ => 0#8)).toArray 74)).alloc (.cells #[] 5)) := HO1.out
  generalize (Value.slice (some ⟨w.heap.size + 1, 0, none⟩) 0 0) = v1 at *
  generalize (w.alloc (.cells (row 32 (yv fun _ => 0#8)).toArray 74)).alloc (.cells #[] 5) = w1 at *
  simp only [Act.put, List.setIfInBounds_toArray, List.set_cons_zero, List.set_cons_succ]
  replace HO2 := hideit HO2
  clear HR0 HE0 HO1
  refine wpList_to rfl (.slice (some ⟨w1.heap.size, 0, none⟩) 1 1) (w1.alloc (.cells #[.int .u8 128] 5)) (by simp [go_sem]) ?_
  simp only [Act.put, List.setIfInBounds_toArray, List.set_cons_zero, List.set_cons_succ]
  have hT : 64 * pieces 0 = 64 * ((0 + 8) / 64) + 64 := by unfold pieces; omega
  obtain ⟨T, hTT⟩ : ∃ T, T = 64 * pieces 0 := ⟨_, rfl⟩
  rw [← hTT] at hT
  replace hT := hideit hT
  replace hTT := hideit hTT
  refine wpList_grow (n := 0) (base := w.heap.size + 1) elem22 rfl (.tmp 14) (.tmp 15) rfl rfl (HO2.out.alloc _).1 ⟨w1.heap.size, 0, none⟩ 1 1 (yv fun _ => 128#8) (yv F) rfl (lie1 w1 128 128#8 rfl) (fun _ _ => rfl) (fun j hj => rfl) (fun j hj => by
    obtain rfl : j = 0 := by omega
    simp only [yv]; rw [hF.out]; unfold fillF; rw [Nat.add_zero, if_neg (by omega), if_pos rfl]) (by omega) (by have := Below.size HO2.out.2.2.1; simp; have := HO2.out.2.1.2.2; omega) ?_
  intro v2 w2 hO2 hg2
  have HO3 := hideit ((HO2.out.alloc _).grow hg2 hO2)
  clear hO2 hg2 HO2
  simp only [Act.put, List.setIfInBounds_toArray, List.set_cons_zero, List.set_cons_succ]
  go_wp2
  go_loopw [3] (fun v wr => ∃ n : Nat, 0 + 1 ≤ n ∧ n + 8 ≤ T ∧ SLA w.heap.size w F v n wr) (fun v _ => T - restOf v)
  case atStart => exact ⟨0 + 1, by omega, by have := hT.out; omega, HO3.out⟩
  case round =>
    clear HO3
    obtain ⟨n, hn1, hn2, hS⟩ := hrel
    obtain ⟨g, cp, rfl, hgb, hcp, hmx, hRow⟩ := hS.1.lies (by omega)
    have HS := hideit hS
    have HT := hideit hT.out
    clear hS hRow
    have n0 : (0 : Int) ≤ (n : Int) := by omega
    by_cases hq : n % 64 = 56
    · have hq1 : (((n : Int) % 64) != 56) = false := by rw [bne_eq_false_iff_eq]; omega
      have HS1 : SLA w.heap.size w F (.slice (some ⟨g, 0, none⟩) n cp) (T - 8 + 0) wr := by
        have h1 := HT.out
        have h2 : n = T - 8 + 0 := by omega
        rw [← h2]
        exact HS.out
      replace HS1 := hideit HS1
      clear HS
      go_wp2
      go_loopw [3, 5] (fun v i wr => ∃ q : Nat, q ≤ 8 ∧ i = .int .i64 q ∧ SLA w.heap.size w F v (T - 8 + q) wr) (fun _ i _ => 8 - (intOf i).toNat)
      case atStart => exact ⟨0, by omega, rfl, HS1.out⟩
      case round =>
        clear HS1
        obtain ⟨q, hq8, rfl, hS⟩ := hrel
        obtain ⟨g', cp', rfl, hgb', hcp', hmx', hRow⟩ := hS.1.lies (by have := HT.out; omega)
        have HS := hideit hS
        have HRow := hideit hRow
        clear hS hRow
        by_cases hlt : q < 8
        · have q0 : (0 : Int) ≤ (q : Int) := by omega
          have q1 : (q : Int) < 8 := by omega
          go_wp2_with (at_builtin; refine wpList_grow (n := T - 8 + q) (base := w.heap.size + 1) elem22 rfl (.tmp 32) (.tmp 39) rfl rfl (HS.out.alloc _).1 ⟨wr.heap.size, 0, none⟩ 1 1 (yv fun _ => lenB 0 q) (yv F) rfl (lie1 wr _ (lenB 0 q) (by unfold lenB; simp)) (fun _ _ => rfl) (fun j hj => rfl) (fun j hj => by
            obtain rfl : j = 0 := by omega
            have h1 := HT.out
            simp only [yv]; rw [hF.out]; unfold fillF; rw [← hTT.out, Nat.add_zero, if_neg (by omega), if_neg (by omega), if_neg (by omega), show T - 8 + q - (T - 8) = q by omega]) (by have := HT.out; omega) (by have := Below.size HS.out.2.2.1; simp; have := HS.out.2.1.2.2; omega) ?_; intro v3 w3 hO3 hg3; have HS3 := hideit ((HS.out.alloc _).grow hg3 hO3); clear hO3 hg3 HS)
          go_roundw
          case rel =>
            first | exact ⟨(q + 1 : Nat), by omega, by go_num, HS3.out⟩ | ((repeat apply Exists.intro); exact ⟨⟨q + 1, by omega, by go_num, HS3.out⟩, rfl⟩)
          case measure => simp [intOf]; omega
        · obtain rfl : q = 8 := by omega
          have hTe : T - 8 + 8 = T := by have := HT.out; omega
          rw [hTe] at HS HRow
          obtain ⟨F0, hF0⟩ : ∃ F0, F0 = fT := ⟨_, rfl⟩
          have hrf := rfirst_any
          rw [← hF0] at hrf
          replace hrf := hideit hrf
          replace hF0 := hideit hF0
          have hz8 := zero28
          go_upto_region 10 with (first | (go_at_call 68; refine (hrf.out _).mono ?_; rintro e w4 ⟨rfl, hw4⟩; obtain ⟨d, hd⟩ : ∃ d, d = w4.heap.size := ⟨_, rfl⟩; have HN : RowAt d 8 (wv fun _ => 0#32) (w4.alloc (.cells (row 8 (wv fun _ => 0#32)).toArray 95)) := (by rw [hd]; exact RowAt.new w4 8 (wv fun _ => 0#32) 95); replace HN := hideit HN; have HS4 := hideit (HS.out.ext hw4); have HRow4 := hideit (HRow.out.carry hw4); have hgd : g' < d := (by rw [hd]; exact Nat.lt_of_lt_of_le HRow.out.2.2 (Below.size hw4)); clear hw4 HS HRow) | (rw [← hd]; refine wpList_store_mid rfl 95 (.tmp 6) (.tmp 41) rfl _ 0 (row 8 (wv F0)).toArray rfl rfl (by rw [row_size]; exact HN.out.there) (by rw [row_size]; exact info28) (row_one fun _ _ => rfl) ?_))
          have HX : L3 w.heap.size g' d T w F (chain F 0) ((w4.alloc (.cells (row 8 (wv fun _ => 0#32)).toArray 95)).setCells d 0 (row 8 (wv F0))) := by
            have hE := HS4.out.2.2.1
            have hsz := Below.size hE
            refine ⟨(HRow4.out.alloc _).cellsOther (by omega) _ _, ?_, (HS4.out.2.1.alloc _).cellsOther (by omega) _ _, below_setCells _ (by omega) _ _ _ (Below.alloc hE hsz _), rfl, by omega, hgd⟩
            show RowAt d 8 (wv fT) _
            rw [← hF0.out]
            exact HN.out.cells
          replace HX := hideit HX
          clear HS4 HRow4 HN hd hz8 hrf hF0
          generalize (w4.alloc (.cells (row 8 (wv fun _ => 0#32)).toArray 95)).setCells d 0 (row 8 (wv F0)) = X at *
          simp only [Act.put]
          have hz9 := zero29
          obtain ⟨N, hN⟩ : ∃ N, N = pieces 0 := ⟨_, rfl⟩
          have hTN : T = 64 * N := by rw [hTT.out, hN]
          have hTb : T ≤ 140737488355328 := by have := HT.out; omega
          replace hN := hideit hN
          replace hTN := hideit hTN
          go_wp2
          go_loopw [7] (fun i wr => ∃ k : Nat, k ≤ N ∧ i = .int .i64 ((64 * k : Nat) : Int) ∧ L3 w.heap.size g' d T w F (chain F k) wr) (fun i _ => T - (intOf i).toNat)
          case atStart => exact ⟨0, by omega, rfl, HX.out⟩
          case round =>
            clear HX
            obtain ⟨k, hk, rfl, hS⟩ := hrel
            have HS := hideit hS
            clear hS
            by_cases hlt : k < N
            · have hk1 : ((64 * k : Nat) : Int) < (T : Int) := by have := hTN.out; omega
              have hk2 : 64 * k < T := by have := hTN.out; omega
              generalize hat : 64 * k = at_ at *
              replace hat := hideit hat
              go_upto_region 14 with (fail)
              obtain ⟨pb, hpb⟩ : ∃ pb, pb = wr.heap.size := ⟨_, rfl⟩
              have HP : RowAt pb 64 (yv fun _ => 0#8) (wr.alloc (.cells (row 64 (yv fun _ => 0#8)).toArray 97)) := by rw [hpb]; exact RowAt.new wr 64 _ 97
              have HSa := hideit (HS.out.ext ((Below.refl _ _).alloc (Nat.le_refl _) (.cells (row 64 (yv fun _ => 0#8)).toArray 97)))
              have hdp : d < pb := by rw [hpb]; exact HS.out.2.1.2.2
              rw [← hpb]
              replace HP := hideit HP
              clear hpb HS
              generalize wr.alloc (.cells (row 64 (yv fun _ => 0#8)).toArray 97) = Y at *
              go_wp2
              go_loopw [9] (fun i wr => ∃ j : Nat, j ≤ 64 ∧ i = .int .i64 (j : Int) ∧ L3 w.heap.size g' d T w F (chain F k) wr ∧ RowAt pb 64 (yv fun x => if x < j then F (64 * k + x) else 0#8) wr) (fun i _ => 64 - (intOf i).toNat)
              case atStart => exact ⟨0, by omega, rfl, HSa.out, HP.out.congr fun x _ => by simp only [yv]; rw [if_neg (by omega)]⟩
              case round =>
                clear HSa HP
                obtain ⟨j, hj, rfl, hS, hP⟩ := hrel
                have HS := hideit hS
                have HP := hideit hP
                by_cases hlt2 : j < 64
                · have hat' := hat.out
                  have hTN' := hTN.out
                  have e1 := hS.1.1 (at_ + j) (by omega)
                  have e2 := hP.1 j hlt2
                  have g2 := hP.2.1 j hlt2
                  simp only [yv] at e1
                  have a2 : at_ + j < T := by omega
                  clear hS hP hat' hTN'
                  have j0 : (0 : Int) ≤ (j : Int) := by omega
                  have j1 : (j : Int) < 64 := by omega
                  have a0 : (0 : Int) ≤ (at_ : Int) := by omega
                  have a1 : (at_ : Int) + (j : Int) < (T : Int) := by omega
                  have a3 : (T : Int) ≤ 140737488355328 := by omega
                  go_wp2
                  have HI : L3 w.heap.size g' d T w F (chain F k) (wr.setCell ⟨pb, j, none⟩ (.int .u8 ((F (at_ + j)).toNat : Int))) := HS.out.but (but_setCell _ _ _ _) hdp
                  have HJ : RowAt pb 64 (yv fun x => if x < j + 1 then F (64 * k + x) else 0#8) (wr.setCell ⟨pb, j, none⟩ (.int .u8 ((F (at_ + j)).toNat : Int))) := (HP.out.set j _).congr fun x _ => by
                    simp only [yv]
                    by_cases e : x = j
                    · subst e; rw [if_pos rfl, if_pos (by omega), hat.out]
                    · rw [if_neg e]
                      by_cases h : x < j
                      · rw [if_pos h, if_pos (by omega)]
                      · rw [if_neg h, if_neg (by omega)]
                  exact ⟨⟨j + 1, by omega, by go_num, HI, HJ⟩, by simp [intOf]; omega⟩
                · obtain rfl : j = 64 := by omega
                  obtain ⟨pp, hpp⟩ : ∃ pp, pp = fun x => F (64 * k + x) := ⟨_, rfl⟩
                  have HP2 := hideit (hP.congr (g' := yv pp) fun x hx => by simp only [yv]; rw [if_pos hx, hpp])
                  have hrb := rblock_any (chain F k) pp wr
                  have hs2 : blockF (chain F k) pp = chain F (k + 1) := by rw [hpp]; rfl
                  rw [hs2] at hrb
                  clear hS hP HP hs2
                  replace hrb := hideit hrb
                  generalize hs1 : chain F (k + 1) = s1 at *
                  generalize hs0 : chain F k = s0 at *
                  replace hs1 := hideit hs1
                  clear hs0 hpp
                  go_upto_region 18 with (fail)
                  refine wp_region_lit ?_
                  refine wpList_load_mid rfl 95 (.tmp 6) rfl d 0 rfl (row 8 (wv s0)) _ HS.out.2.1.range Tryd.underlying95 rfl (by rw [row_length]; exact info28) ?_
                  refine wpList_load_mid rfl 97 (.tmp 8) rfl pb 0 rfl (row 64 (yv pp)) _ HP2.out.range Tryd.underlying97 rfl (by rw [row_length]; exact info29) ?_
                  simp only [Act.put, List.setIfInBounds_toArray, List.set_cons_zero, List.set_cons_succ]
                  refine wpList_call rfl (by simp [go_sem]) (hrb.out.mono ?_)
                  rintro e V ⟨rfl, hV⟩
                  refine ⟨_, rfl, ?_⟩
                  simp only [Act.put, List.setIfInBounds_toArray, List.set_cons_zero, List.set_cons_succ]
                  have HV := hideit (HS.out.ext hV)
                  clear hrb hV HS HP2
                  refine wpList_store_mid rfl 95 (.tmp 6) (.tmp 62) rfl d 0 (row 8 (wv s1)).toArray rfl rfl (by rw [row_size]; exact HV.out.2.1.there) (by rw [row_size]; exact info28) (row_one fun _ _ => rfl) ?_
                  have HV1 := hideit (HV.out.setS s1)
                  clear HV
                  generalize V.setCells d 0 (row 8 (wv s1)) = V1 at *
                  simp only [Act.put]
                  have a0 : (0 : Int) ≤ (at_ : Int) := by omega
                  have a3 : (at_ : Int) ≤ 140737488355328 := by omega
                  go_wp2
                  go_roundw
                  case rel =>
                    have HQ : L3 w.heap.size g' d T w F (chain F (k + 1)) V1 := by rw [hs1.out]; exact HV1.out
                    have hi : Value.int .i64 ((at_ : Int) + 64) = .int .i64 ((64 * (k + 1) : Nat) : Int) := by have := hat.out; congr 1; omega
                    first | exact ⟨(k + 1 : Nat), by omega, hi, HQ⟩ | ((repeat apply Exists.intro); exact ⟨⟨k + 1, by omega, hi, HQ⟩, rfl⟩)
                  case measure =>
                    have h1 := hat.out
                    simp [intOf]
                    omega
            · obtain rfl : k = N := by omega
              have hk1 : ¬ (((64 * k : Nat) : Int) < (T : Int)) := by have := hTN.out; omega
              have hk2 : ¬ (64 * k < T) := by have := hTN.out; omega
              generalize hat : 64 * k = at_ at *
              clear hat
              have hfin : digF (chain F k) = R := by
                rw [hR.out, hN.out, hF.out]
                rfl
              replace hfin := hideit hfin
              clear hz9
              generalize chain F k = s1 at *
              go_upto_region 20 with (fail)
              obtain ⟨ob, hob⟩ : ∃ ob, ob = wr.heap.size := ⟨_, rfl⟩
              have HP : RowAt ob 32 (yv fun _ => 0#8) (wr.alloc (.cells (row 32 (yv fun _ => 0#8)).toArray 74)) := by rw [hob]; exact RowAt.new wr 32 _ 74
              have HSa := hideit (HS.out.ext ((Below.refl _ _).alloc (Nat.le_refl _) (.cells (row 32 (yv fun _ => 0#8)).toArray 74)))
              have hdo : d < ob := by rw [hob]; exact HS.out.2.1.2.2
              rw [← hob]
              replace HP := hideit HP
              clear hob HS hz
              generalize wr.alloc (.cells (row 32 (yv fun _ => 0#8)).toArray 74) = Y at *
              go_wp2
              go_loopw [11] (fun i wr => ∃ j : Nat, j ≤ 32 ∧ i = .int .i64 (j : Int) ∧ L3 w.heap.size g' d T w F s1 wr ∧ RowAt ob 32 (yv fun x => if x < j then digF s1 x else 0#8) wr) (fun i _ => 32 - (intOf i).toNat)
              case atStart => exact ⟨0, by omega, rfl, HSa.out, HP.out.congr fun x _ => by simp only [yv]; rw [if_neg (by omega)]⟩
              case round =>
                clear HSa HP
                obtain ⟨j, hj, rfl, hS, hP⟩ := hrel
                have HS := hideit hS
                have HP := hideit hP
                by_cases hlt2 : j < 32
                · have e1 := hS.2.1.1 (j / 4) (by omega)
                  have e2 := hP.1 j hlt2
                  have g2 := hP.2.1 j hlt2
                  clear hS hP
                  simp only [wv] at e1
                  have j0 : (0 : Int) ≤ (j : Int) := by omega
                  have j1 : (j : Int) < 32 := by omega
                  have b1 := (s1 (j / 4)).isLt
                  go_wp2
                  rw [dig_fact]
                  refine ⟨⟨j + 1, by omega, by go_num, HS.out.but (but_setCell _ _ _ _) hdo, (HP.out.set j _).congr fun x _ => ?_⟩, by simp [intOf]; omega⟩
                  simp only [yv]
                  by_cases e : x = j
                  · subst e; rw [if_pos rfl, if_pos (by omega)]; rfl
                  · rw [if_neg e]
                    by_cases h : x < j
                    · rw [if_pos h, if_pos (by omega)]
                    · rw [if_neg h, if_neg (by omega)]
                · obtain rfl : j = 32 := by omega
                  have HP2 := hideit (hP.congr (g' := yv R) fun x hx => by simp only [yv]; rw [if_pos hx, hfin.out])
                  have HR0 := hideit hS.2.2.1
                  have hB := hideit hS.2.2.2.1
                  clear hS hP HS HP
                  go_wp2_with (first | (refine wpList_load_mid rfl 74 (.tmp 10) rfl _ 0 rfl (row 32 (yv R)) _ HP2.out.range Tryd.underlying74 rfl (by rw [row_length]; exact info24) ?_) | (refine wpList_store_mid rfl 74 (.tmp 2) (.tmp 79) rfl _ 0 (row 32 (yv R)).toArray rfl rfl (by rw [row_size]; exact HR0.out.there) (by rw [row_size]; exact info24) (row_one fun _ _ => rfl) ?_))
                  exact bodyPost_ret (ret_row Tryd.results46 rfl (HR0.out.cells (g' := yv R)) Tryd.underlying74 rfl info24) rfl ⟨rfl, below_setCells _ (Nat.le_refl _) _ _ _ hB.out⟩
    · have hq1 : (((n : Int) % 64) != 56) = true := by rw [bne_iff_ne]; omega
      go_upto_region 3 with (fail)
      refine wp_region_lit ?_
      refine wpList_run rfl (.slice (some ⟨g, 0, none⟩) n cp) (by simp [go_sem]) ?_
      simp only [Act.put, List.setIfInBounds_toArray, List.set_cons_zero, List.set_cons_succ]
      refine wpList_to rfl (.slice (some ⟨wr.heap.size, 0, none⟩) 1 1) (wr.alloc (.cells #[.int .u8 0] 5)) (by simp [go_sem]) ?_
      simp only [Act.put, List.setIfInBounds_toArray, List.set_cons_zero, List.set_cons_succ]
      refine wpList_grow (n := n) (base := w.heap.size + 1) elem22 rfl (.tmp 21) (.tmp 22) rfl rfl (HS.out.alloc _).1 ⟨wr.heap.size, 0, none⟩ 1 1 (yv fun _ => 0#8) (yv F) rfl (lie1 wr _ (0#8) (by rfl)) (fun _ _ => rfl) (fun j hj => rfl) (fun j hj => by
        obtain rfl : j = 0 := by omega
        simp only [yv]; rw [hF.out]; have h1 := HT.out; have h2 := hTT.out; unfold fillF; rw [Nat.add_zero, if_neg (by omega), if_neg (by omega), if_pos (by omega)]) (by have := HT.out; omega) (by have := Below.size HS.out.2.2.1; simp; have := HS.out.2.1.2.2; omega) ?_
      intro v3 w3 hO3 hg3
      have HS3 := hideit ((HS.out.alloc _).grow hg3 hO3)
      clear hO3 hg3 HS
      simp only [Act.put, List.setIfInBounds_toArray, List.set_cons_zero, List.set_cons_succ]
      go_wp2
      go_roundw
      case rel =>
        first | exact ⟨(n + 1 : Nat), by omega, by have := HT.out; omega, HS3.out⟩ | ((repeat apply Exists.intro); exact ⟨⟨n + 1, by omega, by have := HT.out; omega, HS3.out⟩, rfl⟩)
      case measure =>
        obtain ⟨g3, cp3, hv3, _⟩ := HS3.out.1.lies (by omega)
        subst hv3
        have := HT.out
        show T - (n + 1) < T - n
        omega
end Go.Proofs.YtedgopionpdfeaaDoor
