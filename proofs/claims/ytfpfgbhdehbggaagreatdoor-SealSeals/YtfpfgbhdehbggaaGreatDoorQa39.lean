/-
  What the document's Double answers: for every tweak, in every world, of which nothing that was there turns: what the program's Double answers. The document's pairs of ciphers, and their tweaks. The document's change of a block at a place.
-/
import Derived.Test.YtfpfgbhdehbggaaGreatDoorQa34
import Derived.Test.YtfpfgbhdehbggaaGreatDoorQa18
import Derived.Deep.CutRange
import Derived.Test.YtfpfgbhdehbggaaGreatDoorQa1
import Derived.Test.YtfpfgbhdehbggaaGreatDoorQa26
import Derived.Test.YtfpfgbhdehbggaaGreatDoorQa37
import Derived.Test.YtfpfgbhdehbggaaGreatDoorQa38
namespace Go.Proofs.YtfpfgbhdehbggaaGreatDoor
set_option maxRecDepth 20000
open Go.RowKit
def shB (x : BitVec 128) (k j : Nat) : Bool := decide (1 ≤ j ∧ j ≤ k) && tb x (j - 1)
def flip (f : Nat → Bool) (i j : Nat) : Bool := if j = i then !f i else f j
theorem shB_step (x : BitVec 128) (k : Nat) : ∀ j, (if j = k + 1 then Value.bool (tb x k) else bv (shB x k) j) = bv (shB x (k + 1)) j := by
  intro j
  by_cases e : j = k + 1
  · subst e; simp [bv, shB]
  · have : decide (1 ≤ j ∧ j ≤ k + 1) = decide (1 ≤ j ∧ j ≤ k) := by rw [decide_eq_decide]; omega
    simp [bv, shB, e, this]
theorem flip_set (f : Nat → Bool) (i : Nat) (v : Bool) (hvA : v = !f i) : ∀ j, (if j = i then Value.bool v else bv f j) = bv (flip f i) j := by
  intro j
  by_cases e : j = i
  · subst e; simp [bv, flip, hvA]
  · simp [bv, flip, e]
theorem dX_tb (x : BitVec 128) (j : Nat) (hj : j < 128) : tb (dX 135#128 x) j = xor (shB x 127 j) (tb x 127 && decide (j = 0 ∨ j = 1 ∨ j = 2 ∨ j = 7)) := by
  unfold dX tb shB
  rw [BitVec.getLsbD_xor, BitVec.getLsbD_shiftLeft, BitVec.msb_eq_getLsbD_last]
  have e1 : (decide (j < 128) && !decide (j < 1) && x.getLsbD (j - 1)) = (decide (1 ≤ j ∧ j ≤ 127) && tb x (j - 1)) := by
    by_cases h : j = 0
    · subst h; simp
    · have h1 : decide (j < 128) = true := by simp; omega
      have h2 : decide (j < 1) = false := by simp; omega
      have h3 : decide (1 ≤ j ∧ j ≤ 127) = true := by simp; omega
      rw [h1, h2, h3]; rfl
  have e2 : (if x.getLsbD (128 - 1) = true then 135#128 else 0#128).getLsbD j = (tb x 127 && decide (j = 0 ∨ j = 1 ∨ j = 2 ∨ j = 7)) := by
    show (if tb x 127 = true then 135#128 else 0#128).getLsbD j = _
    cases tb x 127
    · simp
    · have : ∀ j < 128, (135#128).getLsbD j = decide (j = 0 ∨ j = 1 ∨ j = 2 ∨ j = 7) := by decide +kernel
      simp [this j hj]
  rw [e1, e2]; rfl
theorem fb_double0 (x : BitVec 128) (h : tb x 127 = false) : fb (shB x 127) = dX 135#128 x := fb_eq fun j hj => by
  rw [dX_tb x j hj, h]; simp
theorem fb_double1 (x : BitVec 128) (h : tb x 127 = true) : fb (flip (flip (flip (flip (shB x 127) 0) 1) 2) 7) = dX 135#128 x := fb_eq fun j hj => by
  rw [dX_tb x j hj, h]
  unfold flip
  by_cases e7 : j = 7
  · subst e7; simp
  · by_cases e2 : j = 2
    · subst e2; simp
    · by_cases e1 : j = 1
      · subst e1; simp
      · by_cases e0 : j = 0
        · subst e0; simp
        · simp [e7, e2, e1, e0]
def DblAt (B m : Nat) (w : World) (x : BitVec 128) (f : Nat → Bool) (wr : World) : Prop :=
  HalfAt (B + 1) 0#128 wr ∧ RowAt m 128 (bv (tb x)) wr ∧ RowAt (m + 1) 128 (bv f) wr ∧ Below B w wr ∧ B + 2 ≤ m
theorem DblAt.set {B m : Nat} {w X : World} {x : BitVec 128} {f f' : Nat → Bool} (i : Nat) (v : Bool) (h : DblAt B m w x f X) (hf : ∀ j, (if j = i then Value.bool v else bv f j) = bv f' j) : DblAt B m w x f' (X.setCell ⟨m + 1, i, none⟩ (.bool v)) := by
  obtain ⟨h1, h2, h3, h4, h5⟩ := h
  exact ⟨h1.other _ _ (by omega), h2.other _ _ (by simp), (h3.set i _).congr (fun j _ => hf j), h4.setCell (by simp; omega) _, h5⟩
set_option maxRecDepth 100000 in
theorem rdouble_any (x : BitVec 128) (w : World) :
    Calls Tryz.prog 95 #[.agg #[.int .u64 ((lo x).toNat : Int), .int .u64 ((hi x).toNat : Int)]] w fun e w' => e = .returned (.agg #[.int .u64 ((lo (dX 135#128 x)).toNat : Int), .int .u64 ((hi (dX 135#128 x)).toNat : Int)]) ∧ Below w.heap.size w w' := by
  have hz := zero42A
  go_enter Tryz.func95, Tryz.ntmps95
  go_wp2_with fail
  refine (bits_any x _).mono ?_
  rintro e w1 ⟨rfl, hb⟩
  have hR := RowAt.newOf w1 128 (bv fun _ => false) 158 Z128 (fun j hj => Z128_get j hj _ rfl)
  have hst := run_storeRow (P := Tryz.prog) hR (bv (tb x)) (fun _ _ => rfl)
  have hlen := row_length 128 (bv (tb x))
  have hsz : ((w1.alloc (Obj.cells Z128 158)).setCells w1.heap.size 0 (row 128 (bv (tb x)))).heap.size = w1.heap.size + 1 := by rw [size_setCells]; simp
  have HR := hideit hR
  have HB := hideit hb
  clear hR hb
  go_wp2
  clear hst hlen hsz
  go_loopw [5] (fun i wr => ∃ k : Nat, k ≤ 127 ∧ i = .int .i64 k ∧ DblAt w.heap.size w1.heap.size w x (shB x k) wr) (fun i _ => 127 - (intOf i).toNat)
  case atStart =>
    have hs := HB.out.size
    simp at hs
    refine ⟨0, by omega, rfl, ?_, ?_, ?_, ?_, by omega⟩
    · refine HalfAt.carry (X := w1) ?_ ?_ (by omega)
      · refine HalfAt.carry ?_ HB.out (by simp)
        refine ⟨?_, ?_, ?_, ?_⟩
        all_goals simp [go_sem, lo, hi]
      · exact (below_setCells _ (Nat.le_refl _) _ _ _ ((Below.refl _ _).alloc (Nat.le_refl _) _)).alloc (by rw [size_setCells]; simp) _
    · exact (HR.out.cells (g' := bv (tb x))).alloc _
    · have := RowAt.newOf ((w1.alloc (Obj.cells Z128 158)).setCells w1.heap.size 0 (row 128 (bv (tb x)))) 128 (bv (shB x 0)) 158 Z128 (fun j hj => Z128_get j hj _ (by simp [shB]; omega))
      rw [size_setCells] at this
      simpa using this
    · refine Below.alloc (below_setCells _ (by omega) _ _ _ (Below.alloc ?_ (by omega) _)) (by rw [size_setCells]; simp; omega) _
      exact (((Below.refl _ _).alloc (Nat.le_refl _) _).alloc (by simp) _).trans (HB.out.mono (by simp; omega))
  case round =>
    obtain ⟨k, hk, rfl, hT⟩ := hrel
    by_cases hlt : k < 127
    · have HT := hideit hT
      obtain ⟨_, hX, hY, _, _⟩ := hT
      have e1 := hX.1 k (by omega)
      have e2 := hY.1 (k + 1) (by omega)
      have g2 := hY.2.1 (k + 1) (by omega)
      simp only [bv] at e1
      clear hX hY
      go_wp2
      go_roundw
      case rel =>
        first | exact ⟨(k + 1 : Nat), by omega, by go_num, HT.out.set _ _ (shB_step x k)⟩ | ((repeat apply Exists.intro); exact ⟨⟨k + 1, by omega, by go_num, HT.out.set _ _ (shB_step x k)⟩, rfl⟩)
      case measure => simp [intOf]; omega
    · obtain rfl : k = 127 := by omega
      have HT := hideit hT
      obtain ⟨_, hX, hY, _, _⟩ := hT
      have e1 := hX.1 127 (by omega)
      simp only [bv] at e1
      rcases h1 : tb x 127 with _ | _
      · rw [h1] at e1
        have H1 := hideit h1
        clear h1 hX hY
        go_wp2_with (first | (refine wpList_load_mid rfl 158 (.tmp 4) rfl _ 0 rfl (row 128 (bv (shB x 127))) _ HT.out.2.2.1.range Tryz.underlying158 rfl (by rw [row_length]; exact info42A) ?_))
        go_wp2_with fail
        refine (frombits_any _ _).mono ?_
        rintro e w2 ⟨rfl, hb2⟩
        rw [fb_double0 x H1.out]
        have hH := HT.out.1.carry hb2 (Nat.lt_of_lt_of_le (show w.heap.size + 1 < w1.heap.size by omega) (Nat.le_of_lt HT.out.2.1.2.2))
        have hBB := HT.out.2.2.2.1.trans (hb2.mono (Nat.le_trans (show w.heap.size ≤ w1.heap.size by omega) (Nat.le_of_lt HT.out.2.1.2.2)))
        have HBB := hideit hBB
        clear hBB hb2
        obtain ⟨c5, c6, f5, f6⟩ := hH
        go_wp2
        refine bodyPost_ret (v := .agg #[.int .u64 ((lo (dX 135#128 x)).toNat : Int), .int .u64 ((hi (dX 135#128 x)).toNat : Int)]) (by simp [results, Tryz.results95, go_sem, c5, c6]) rfl ⟨rfl, ?_⟩
        exact (HBB.out.setCell (by simp) _).setCell (by simp) _
      · rw [h1] at e1
        have H1 := hideit h1
        have y0 := hY.1 0 (by omega)
        have y1 := hY.1 1 (by omega)
        have y2 := hY.1 2 (by omega)
        have y7 := hY.1 7 (by omega)
        have z0 := hY.2.1 0 (by omega)
        have z1 := hY.2.1 1 (by omega)
        have z2 := hY.2.1 2 (by omega)
        have z7 := hY.2.1 7 (by omega)
        simp only [bv] at y0 y1 y2 y7
        have HT2 := hideit ((((HT.out.set 0 (!shB x 127 0) (flip_set _ 0 _ rfl)).set 1 (!shB x 127 1) (flip_set _ 1 _ rfl)).set 2 (!shB x 127 2) (flip_set _ 2 _ rfl)).set 7 (!shB x 127 7) (flip_set _ 7 _ rfl))
        clear h1 hX hY
        go_upto_region 12 with fail
        go_wp2_with (first | (refine wpList_load_mid rfl 158 (.tmp 4) rfl _ 0 rfl (row 128 (bv (flip (flip (flip (flip (shB x 127) 0) 1) 2) 7))) _ HT2.out.2.2.1.range Tryz.underlying158 rfl (by rw [row_length]; exact info42A) ?_))
        go_wp2_with fail
        refine (frombits_any _ _).mono ?_
        rintro e w2 ⟨rfl, hb2⟩
        rw [fb_double1 x H1.out]
        have hH := HT2.out.1.carry hb2 (Nat.lt_of_lt_of_le (show w.heap.size + 1 < w1.heap.size by omega) (Nat.le_of_lt HT2.out.2.1.2.2))
        have hBB := HT2.out.2.2.2.1.trans (hb2.mono (Nat.le_trans (show w.heap.size ≤ w1.heap.size by omega) (Nat.le_of_lt HT2.out.2.1.2.2)))
        have HBB := hideit hBB
        clear hBB hb2
        obtain ⟨c5, c6, f5, f6⟩ := hH
        go_wp2
        refine bodyPost_ret (v := .agg #[.int .u64 ((lo (dX 135#128 x)).toNat : Int), .int .u64 ((hi (dX 135#128 x)).toNat : Int)]) (by simp [results, Tryz.results95, go_sem, c5, c6]) rfl ⟨rfl, ?_⟩
        exact (HBB.out.setCell (by simp) _).setCell (by simp) _
end Go.Proofs.YtfpfgbhdehbggaaGreatDoor
namespace Go.Proofs.YtfpfgbhdehbggaaGreatDoor
set_option maxRecDepth 20000
open Go.RowKit Go.BigFrame
theorem sched_words' (k : Nat) (key : Nat → BitVec 8) (j : Nat) (hj : j < 16 * (k + 7)) : schedK k key j = wordsF k bxT twT key j := by
  unfold schedK keyP
  rw [if_pos hj]
theorem keysTo' {c kb cap N : Nat} {K K' bx ub : Nat → BitVec 8} {X : World} (h : RCip c kb cap N K bx ub X) (e : ∀ j, j < 16 * N → K' j = K j) : RCip c kb cap N K' bx ub X :=
  ⟨h.head, h.box, h.unbox, fun j hj => by rw [e j hj]; exact h.keys j hj, h.inC, h.inK⟩
def RPairAt (base q r : Nat) (S1 S2 : Nat → BitVec 8) (w : World) : Prop := ∃ x1 kb1 cp1 x2 kb2 cp2, w.cell? ⟨q, 0, none⟩ = some (.pointer (some ⟨x1, 0, none⟩)) ∧ w.cell? ⟨q, 1, none⟩ = some (.pointer (some ⟨x2, 0, none⟩)) ∧
  RCip x1 kb1 cp1 (r + 1) S1 bxT ubT w ∧ RCip x2 kb2 cp2 (r + 1) S2 bxT ubT w ∧ q < w.heap.size ∧ base ≤ q ∧ base ≤ x1 ∧ base ≤ kb1 ∧ base ≤ x2 ∧ base ≤ kb2
theorem RPairAt.ext {base q r : Nat} {S1 S2 : Nat → BitVec 8} {w X : World} (h : RPairAt base q r S1 S2 w) (k : Ext w X) : RPairAt base q r S1 S2 X := by
  obtain ⟨x1, kb1, cp1, x2, kb2, cp2, h1, h2, h3, h4, h5, h6⟩ := h
  exact ⟨x1, kb1, cp1, x2, kb2, cp2, (Below.cell k (p := ⟨q, 0, none⟩) h5).trans h1, (Below.cell k (p := ⟨q, 1, none⟩) h5).trans h2, h3.carry k, h4.carry k, Nat.lt_of_lt_of_le h5 (Below.size k), h6⟩
theorem renc_as (c kb cap r : Nat) (S f : Nat → BitVec 8) (hr : 1 ≤ r) (hr2 : r ≤ 14) (w : World) (h : RCip c kb cap (r + 1) S bxT ubT w) :
    Calls Tryz.prog 93 #[.pointer (some ⟨c, 0, none⟩), .agg (row 16 (yv f)).toArray] w fun e w' => e = .returned (.agg (row 16 (yv (encF S bxT twT r f))).toArray) ∧ Below w.heap.size w w' := by
  have h1 := renc_any c kb cap (r + 1) S bxT ubT f (by omega) (by omega) w h
  rwa [show row 16 (yv (rencK (r + 1) S bxT f (r + 1 - 1))) = row 16 (yv (encF S bxT twT r f)) from row_ext fun j hj => by simp only [yv]; rw [renc_enc S f r hr j hj]] at h1
set_option maxRecDepth 20000 in
set_option maxHeartbeats 2000000 in
theorem rxnew4_any (a : Addr) (cap : Nat) (key : Nat → BitVec 8) (w : World) (hk : LieAt a 32 (yv key) w) (hcap : 32 ≤ cap) :
    Calls Tryz.prog 18 #[.slice (some a) 32 cap] w fun e w' => ∃ q, e = .returned (.tuple #[.pointer (some ⟨q, 0, none⟩), .int .i64 0]) ∧ RPairAt w.heap.size q 10 (schedK 4 key) (schedK 4 fun j => key (16 + j)) w' ∧ Below w.heap.size w w' := by
  have i1 : (16 : Int) ≤ (cap : Int) := by omega
  have i2 : ¬ cap = 16 := by omega
  have i3 : 16 ≤ cap := by omega
  obtain ⟨S1, hS1⟩ : ∃ S1, S1 = schedK 4 key := ⟨_, rfl⟩
  obtain ⟨S2, hS2⟩ : ∃ S2, S2 = schedK 4 (fun j => key (16 + j)) := ⟨_, rfl⟩
  obtain ⟨sa, hsa⟩ : ∃ sa : Addr, sa = a.add 16 := ⟨_, rfl⟩
  have hn1 : Calls Tryz.prog 41 #[.slice (some a) 16 cap] w fun e w' => ∃ c kb cp, e = .returned (.tuple #[.pointer (some ⟨c, 0, none⟩), .int .i64 0]) ∧ RCip c kb cp 11 S1 bxT ubT w' ∧ Below w.heap.size w w' ∧ w.heap.size ≤ c ∧ w.heap.size ≤ kb := by
    rw [hS1]
    exact (rnew4_any a cap key w ⟨fun j hj => hk.1 j (by omega), hk.2⟩).mono fun e w' ⟨c, kb, cp, h4, h5, h6⟩ => ⟨c, kb, cp, h4, keysTo' h5 fun j hj => sched_words' 4 key j hj, h6⟩
  have hn2 : ∀ X, Ext w X → Calls Tryz.prog 41 #[.slice (some sa) 16 (cap - 16)] X fun e w' => ∃ c kb cp, e = .returned (.tuple #[.pointer (some ⟨c, 0, none⟩), .int .i64 0]) ∧ RCip c kb cp 11 S2 bxT ubT w' ∧ Below X.heap.size X w' ∧ X.heap.size ≤ c ∧ X.heap.size ≤ kb := fun X hX => by
    rw [hS2]
    have h1 := hk.carry hX
    refine (rnew4_any sa (cap - 16) (fun j => key (16 + j)) X ⟨fun j hj => ?_, by rw [hsa, add_block]; exact h1.2⟩).mono fun e w' ⟨c, kb, cp, h4, h5, h6⟩ => ⟨c, kb, cp, h4, keysTo' h5 fun j hj => sched_words' 4 _ j hj, h6⟩
    rw [hsa, add_add', h1.1 (16 + j) (by omega)]
    rfl
  replace hn1 := hideit hn1
  replace hn2 := hideit hn2
  rw [← hS1, ← hS2]
  replace hS1 := hideit hS1
  replace hS2 := hideit hS2
  clear hk
  have hsa' : (⟨a.block, a.off + 16, none⟩ : Addr) = sa := by rw [hsa]; rfl
  clear hsa
  go_enter Tryz.func18, Tryz.ntmps18
  go_upto_region 4 with (go_at_call 41; refine hn1.out.mono ?_; rintro e w1 ⟨x1, kb1, cp1, rfl, h1, h2, h3, h4⟩; have HC1 := hideit h1; have HX1 : Hid (Ext w w1) := hideit h2; clear h1 h2)
  have hn2' := hideit (hn2.out w1 HX1.out)
  go_upto_region 5 with (go_at_call 41; refine hn2'.out.mono ?_; rintro e w2 ⟨x2, kb2, cp2, rfl, h1, h2, h5, h6⟩; have HC2 := hideit h1; have HX2 : Hid (Ext w1 w2) := hideit h2; clear h1 h2)
  have hsw := Below.size HX1.out
  have hsw2 := Below.size HX2.out
  clear hn1 hn2 hn2'
  obtain ⟨W, hW⟩ : ∃ W, W = w2.alloc (.cells #[.pointer (some ⟨x1, 0, none⟩), .pointer (some ⟨x2, 0, none⟩)] 88) := ⟨_, rfl⟩
  have HEx : Ext w2 W := by rw [hW]; exact (Below.refl _ _).alloc (Nat.le_refl _) _
  have HP : RPairAt w.heap.size w2.heap.size 10 S1 S2 W := ⟨x1, kb1, cp1, x2, kb2, cp2, by rw [hW]; simp [go_sem], by rw [hW]; simp [go_sem], RCip.carry (RCip.carry HC1.out HX2.out) HEx, RCip.carry HC2.out HEx, by rw [hW]; simp, by omega, by omega, by omega, by omega, by omega⟩
  have HB : Ext w W := Ext.trans (Ext.trans HX1.out HX2.out) HEx
  replace HP := hideit HP
  replace HB := hideit HB
  replace hW := hideit hW
  clear HEx HC1 HC2 HX1 HX2
  go_wp2
  refine bodyPost_ret (results_tmp2 Tryz.results18 _ _ _) rfl ?_
  rw [← hW.out]
  exact ⟨_, rfl, HP.out, HB.out⟩
theorem makes80 {o : Oper} (hg : o.guard = none) (ho : o.op = .alloc 77) : Makes Tryz.prog o 2 (hvA 0#128) := ⟨hg, fun ρ w => ⟨(row 2 (hvA 0#128)).toArray, 77, by
  unfold execOp
  rw [ho]
  simp [go_sem]
  rfl, fun j hj => by rw [List.getElem?_toArray]; exact row_get 2 _ j hj⟩⟩
def twsF (t : BitVec 128) (j : Nat) : BitVec 8 := byBA (dK 135#128 (j / 16) t) (j % 16)
def TwAt (base c : Nat) (w : World) (t : BitVec 128) (n : Nat) (v : Value) (X : World) : Prop := RowAt c 2 (hvA (dK 135#128 n t)) X ∧ OwnN base 52 16 v n (yv (twsF t)) X ∧ Ext w X
set_option maxRecDepth 20000 in
set_option maxHeartbeats 4000000 in
theorem rtweaks_any (base0 q r n : Nat) (S1 S2 : Nat → BitVec 8) (hr : 1 ≤ r) (hr2 : r ≤ 14) (u : BitVec 64) (hn : n ≤ 4097) (w : World) (hP : RPairAt base0 q r S1 S2 w) :
    Calls Tryz.prog 73 #[.pointer (some ⟨q, 0, none⟩), .int .u64 (u.toNat : Int), .int .i64 (n : Int)] w fun e w' => ∃ v, e = .returned v ∧ OwnN w.heap.size 52 16 v n (yv (twsF (tw0 S2 r u))) w' ∧ Below w.heap.size w w' := by
  have hz := store_Y16
  obtain ⟨c, hc⟩ : ∃ c, c = w.heap.size := ⟨_, rfl⟩
  obtain ⟨W1, hW1⟩ : ∃ W1, W1 = w.alloc (.cells (row 16 (yv fun _ => 0#8)).toArray 52) := ⟨_, rfl⟩
  have HE1 : Ext w W1 := by rw [hW1]; exact (Below.refl _ _).alloc (Nat.le_refl _) _
  have HZ1 : RowAt c 16 (yv fun _ => 0#8) W1 := by rw [hW1, hc]; exact RowAt.new w 16 (yv fun _ => 0#8) 52
  replace HE1 := hideit HE1
  replace HZ1 := hideit HZ1
  replace hW1 := hideit hW1
  replace hP := hideit hP
  have hlo : lo (jn u 0#64) = u := lo_jn _ _
  go_enter Tryz.func73, Tryz.ntmps73
  go_upto_region 3 with (fail)
  rw [← hW1.out, ← hc]
  have hcw : w.heap.size ≤ c := by omega
  clear hc hW1 hz
  go_loopw [8] (fun i wr => ∃ m : Nat, m ≤ 8 ∧ i = .int .i64 (m : Int) ∧ RowAt c 16 (yv fun j => if j < m then byBA (jn u 0#64) j else 0#8) wr ∧ Ext w wr) (fun i _ => 8 - (intOf i).toNat)
  case atStart => exact ⟨0, by omega, rfl, HZ1.out.congr fun j _ => by simp only [yv]; rw [if_neg (by omega)], HE1.out⟩
  case round =>
    clear HZ1 HE1
    obtain ⟨m, hm, rfl, hR, hE⟩ := hrel
    have HR := hideit hR
    have HE := hideit hE
    clear hE
    by_cases hlt : m < 8
    · have m0 : (0 : Int) ≤ (m : Int) := by omega
      have m1 : (m : Int) < 8 := by omega
      have e1 := hR.1 m (by omega)
      have g1 := hR.2.1 m (by omega)
      have hby := byB_lo (jn u 0#64) m hlt
      rw [hlo] at hby
      clear hR
      go_upto_region 4 with (fail)
      have HS := hideit (RowAt.set HR.out m (.int .u8 ((byBA (jn u 0#64) m).toNat : Int)))
      have HBu : But c wr (wr.setCell ⟨c, m, none⟩ (.int .u8 ((byBA (jn u 0#64) m).toNat : Int))) := but_setCell _ _ _ _
      have HE' : Hid (Ext w _) := hideit (Ext.but HE.out HBu hcw)
      clear HR HE HBu e1 g1 hby
      generalize wr.setCell ⟨c, m, none⟩ (.int .u8 ((byBA (jn u 0#64) m).toNat : Int)) = Y at *
      go_wp2
      go_roundw
      case rel =>
        have h1 : RowAt c 16 (yv fun j => if j < m + 1 then byBA (jn u 0#64) j else 0#8) Y := HS.out.congr fun j _ => by
          simp only [yv]
          by_cases e : j = m
          · subst e; rw [if_pos rfl, if_pos (by omega)]
          · rw [if_neg e]
            by_cases h : j < m
            · rw [if_pos h, if_pos (by omega)]
            · rw [if_neg h, if_neg (by omega)]
        first | exact ⟨(m + 1 : Nat), by omega, by go_num, h1, HE'.out⟩ | ((repeat apply Exists.intro); exact ⟨⟨m + 1, by omega, by go_num, h1, HE'.out⟩, rfl⟩)
      case measure => simp [intOf]; omega
    · obtain rfl : m = 8 := by omega
      obtain ⟨f, hf⟩ : ∃ f, f = byBA (jn u 0#64) := ⟨_, rfl⟩
      have HF : Hid (RowAt c 16 (yv f) wr) := hideit (HR.out.congr fun j hj => by
        simp only [yv]
        rw [hf]
        by_cases h : j < 8
        · rw [if_pos h]
        · rw [if_neg h]
          have h2 := byB_hi (jn u 0#64) (j - 8) (by omega)
          rw [hi_jn, show 8 + (j - 8) = j by omega] at h2
          rw [← h2]
          simp)
      clear HR hR hlo
      obtain ⟨t, ht⟩ : ∃ t, t = tw0 S2 r u := ⟨_, rfl⟩
      obtain ⟨E, hE⟩ : ∃ E, E = encF S2 bxT twT r f := ⟨_, rfl⟩
      have htE : Hid (ofB E = t) := by unfold Hid; rw [ht, hE, hf]; rfl
      replace ht := hideit ht
      replace hf := hideit hf
      have hne := kept_ne wr.drew
      obtain ⟨x1, kb1, cp1, x2, kb2, cp2, p1, p2, pw3, p4, p5, _⟩ := hP.out.ext (Ext.trans HE.out (Ext.draw (Ext.refl wr)))
      have e1 : ∀ k : Kept (Ext wr.drew), k.w.cell? ⟨q, 1, none⟩ = some (.pointer (some ⟨x2, 0, none⟩)) := fun k => (Below.cell k.ok (p := ⟨q, 1, none⟩) p5).trans p2
      replace p4 := hideit p4
      have hrn : Hid (∀ X, Ext wr.drew X → Calls Tryz.prog 93 #[.pointer (some ⟨x2, 0, none⟩), .agg (row 16 (yv f)).toArray] X fun e w' => e = .returned (.agg (row 16 (yv E)).toArray) ∧ Below X.heap.size X w') := fun X hX => by rw [hE]; exact renc_as x2 kb2 cp2 r S2 f hr hr2 X (p4.out.carry hX)
      clear hE p1 p2 pw3 p4
      go_upto_region 6 with (fail)
      refine wp_region_made 7 2 (hvA 0#128) _ (by kernel_rfl) (by kernel_rfl) rfl (makes80 rfl rfl) ?_
      simp only [List.take_succ_cons, List.take_zero, List.drop_succ_cons, List.drop_zero]
      refine wpStrong_run 5 rfl ?_
      simp only [List.take_succ_cons, List.take_zero, List.drop_succ_cons, List.drop_zero]
      go_big_quiet_step (fail)
      go_big_quiet_step (fail)
      go_big_quiet_step (fail)
      go_big_quiet_step (fail)
      go_big_quiet_want
      refine loadQ 52 (.tmp 7) c 0 16 (yv f) rfl rfl (fun w' hw' => (RowAt.carry (RowAt.drew HF.out) hw').range) Tryz.underlying52 rfl info32 ?_
      simp only [zp0, zp1, zp2, zp3]
      go_big_quiet_on
      refine wpQuiet_nil ?_
      refine wpStrong_call rfl (fun X => by simp [go_sem]) (fun X hX => hrn.out X hX) ?_
      simp only [zp0, zp1, zp2, zp3]
      refine wpStrong_call rfl (fun X => by simp [go_sem]) (fun X _ => rOfB_any E X) ?_
      simp only [zp0, zp1, zp2, zp3]
      refine wpStrong_nil ?_
      intro d X hd hX hR
      have hX' : Ext wr X := Ext.trans ((Below.refl _ _).drew) hX
      have HEX : Hid (Ext w X) := hideit (Ext.trans HE.out hX')
      have hwd : w.heap.size ≤ d := by have := Below.size HE.out; omega
      replace hR := hideit hR
      clear hne e1 hX hX' hrn HF HE p5
      rw [htE.out]
      refine wpList_store_mid rfl 77 (.tmp 9) (.tmp 29) rfl _ 0 (row 2 (hvA t)).toArray rfl rfl (by rw [row_size]; exact hR.out.there) (by rw [row_size]; exact info80) (hv_one _) ?_
      have HBu : But d X (X.setCells d 0 (row 2 (hvA t))) := But.sets _ 0 _ (But.refl _ _)
      have HI : TwAt (d + 1) d w t 0 (.slice none 0 0) (X.setCells d 0 (row 2 (hvA t))) := ⟨hR.out.cells, ownN_nil _ _ _ _ _, Ext.but HEX.out HBu hwd⟩
      replace HI := hideit HI
      clear hR HEX HBu htE
      generalize X.setCells d 0 (row 2 (hvA t)) = Y at *
      simp only [Act.put]
      go_upto_region 9 with (fail)
      go_loopw [10, 11] (fun v i wr => ∃ m : Nat, m ≤ n ∧ i = .int .i64 (m : Int) ∧ TwAt (d + 1) d w t m v wr) (fun _ i _ => 5000 - (intOf i).toNat)
      case atStart => exact ⟨0, by omega, rfl, HI.out⟩
      case round =>
        clear HI
        obtain ⟨m, hm, rfl, hI⟩ := hrel
        have HI := hideit hI
        clear hI
        by_cases hlt : m < n
        · have m0 : (0 : Int) ≤ (m : Int) := by omega
          have m1 : (m : Int) < (n : Int) := by omega
          have m2 : (m : Int) ≤ 4097 := by omega
          obtain ⟨T, hT⟩ : ∃ T, T = dK 135#128 m t := ⟨_, rfl⟩
          have HH : RowAt d 2 (hvA T) wr := by rw [hT]; exact HI.out.1
          replace HH := hideit HH
          replace hT := hideit hT
          go_upto_region 11 with (fail)
          refine wp_region_lit ?_
          refine wpList_run rfl u10 (by simp [go_sem]) ?_
          simp only [zp0, zp1, zp2, zp3]
          refine wpList_load_mid rfl 77 (.tmp 9) rfl _ 0 rfl (row 2 (hvA T)) _ HH.out.range Tryz.underlying77 rfl (by rw [row_length]; exact info80) ?_
          simp only [zp0, zp1, zp2, zp3]
          refine wpList_call rfl (by simp [go_sem, hv_row]) ((rbytes_any T _).mono ?_)
          rintro e w4 ⟨rfl, h4⟩
          refine ⟨_, rfl, ?_⟩
          simp only [zp0, zp1, zp2, zp3]
          have HI4 : TwAt (d + 1) d w t m u10 w4 := ⟨HI.out.1.carry h4, HI.out.2.1.ext h4, Ext.trans HI.out.2.2 h4⟩
          replace HI4 := hideit HI4
          clear HI HH h4
          refine wpList_to rfl (.slice (some ⟨w4.heap.size, 0, none⟩) 1 1) (w4.alloc (.cells (row 16 (yv (byBA T))).toArray 52)) (exec_bslice 125 1 [(0, .tmp 37)] rfl (bslice36 (byBA T) w4)) ?_
          simp only [zp0, zp1, zp2, zp3]
          have HEx : Ext w4 (w4.alloc (.cells (row 16 (yv (byBA T))).toArray 52)) := (Below.refl _ _).alloc (Nat.le_refl _) _
          have HI5 : TwAt (d + 1) d w t m u10 (w4.alloc (.cells (row 16 (yv (byBA T))).toArray 52)) := ⟨HI4.out.1.carry HEx, HI4.out.2.1.ext HEx, Ext.trans HI4.out.2.2 HEx⟩
          refine wpList_growN elem36 (by decide) rfl (.tmp 35) (.tmp 38) rfl rfl HI5.2.1 ⟨w4.heap.size, 0, none⟩ 1 1 (yv (byBA T)) (yv (twsF t)) rfl (lie_row (RowAt.new w4 16 (yv (byBA T)) 52)) (fun _ _ => rfl) (fun _ _ => rfl) (fun j hj => by simp only [yv, twsF]; rw [show (m * 16 + j) / 16 = m by omega, show (m * 16 + j) % 16 = j by omega, hT.out]) (by omega) HI5.1.2.2 ?_
          intro v6 w6 ho hg hz6
          have hlt6 := HI5.2.1.lt
          have H5' : RowAt d 2 (hvA T) (w4.alloc (.cells (row 16 (yv (byBA T))).toArray 52)) := by
            have h := HI5.1
            rwa [← hT.out] at h
          have H6 : RowAt d 2 (hvA T) w6 := RowAt.grown H5' hg (fun h => by have := (hlt6 d h.symm).1; omega)
          have E6 : Ext w w6 := gr_ext HI5.2.2 hg (fun k h => by have := (hlt6 k h).1; omega)
          replace H6 := hideit H6
          replace E6 := hideit E6
          replace ho := hideit ho
          clear hg hz6 hlt6 H5' HI5 HEx HI4
          simp only [zp0, zp1, zp2, zp3]
          go_upto_region 12 with (fail)
          refine wp_region_lit ?_
          refine wpList_load_mid rfl 77 (.tmp 9) rfl _ 0 rfl (row 2 (hvA T)) _ H6.out.range Tryz.underlying77 rfl (by rw [row_length]; exact info80) ?_
          simp only [zp0, zp1, zp2, zp3]
          refine wpList_call rfl (by simp [go_sem, hv_row]) ((rdouble_any T _).mono ?_)
          rintro e w7 ⟨rfl, h7⟩
          refine ⟨_, rfl, ?_⟩
          simp only [zp0, zp1, zp2, zp3]
          have H7 := hideit (H6.out.carry h7)
          have O7 := hideit (ho.out.ext h7)
          have E7 : Hid (Ext w w7) := hideit (Ext.trans E6.out h7)
          clear H6 E6 ho h7
          refine wpList_store_mid rfl 77 (.tmp 9) (.tmp 41) rfl _ 0 (row 2 (hvA (dX 135#128 T))).toArray rfl rfl (by rw [row_size]; exact H7.out.there) (by rw [row_size]; exact info80) (hv_one _) ?_
          have HBu : But d w7 (w7.setCells d 0 (row 2 (hvA (dX 135#128 T)))) := But.sets _ 0 _ (But.refl _ _)
          have HI8 : TwAt (d + 1) d w t (m + 1) v6 (w7.setCells d 0 (row 2 (hvA (dX 135#128 T)))) := ⟨by
            show RowAt d 2 (hvA (dX 135#128 (dK 135#128 m t))) _
            rw [← hT.out]; exact H7.out.cells, O7.out.but HBu (fun h => by have := (O7.out.lt d h).1; omega), Ext.but E7.out HBu hwd⟩
          replace HI8 := hideit HI8
          clear H7 O7 E7 HBu
          generalize w7.setCells d 0 (row 2 (hvA (dX 135#128 T))) = Z at *
          simp only [Act.put]
          go_wp2
          go_roundw
          case rel =>
            have h1 := HI8.out
            first | exact ⟨(m + 1 : Nat), by omega, by go_num, h1⟩ | ((repeat apply Exists.intro); exact ⟨⟨m + 1, by omega, by go_num, h1⟩, rfl⟩)
          case measure => simp [intOf]; omega
        · obtain rfl : m = n := by omega
          have HO : OwnN w.heap.size 52 16 u10 m (yv (twsF (tw0 S2 r u))) wr := by
            rw [← ht.out]
            exact ⟨HI.out.2.1.1, HI.out.2.1.2.imp id fun ⟨g, cp, cur, k1, k2, k3⟩ => ⟨g, cp, cur, k1, by omega, k3⟩⟩
          replace HO := hideit HO
          go_wp2
          go_ret
          exact ⟨u10, rfl, HO.out, HI.out.2.2⟩
end Go.Proofs.YtfpfgbhdehbggaaGreatDoor
namespace Go.Proofs.YtfpfgbhdehbggaaGreatDoor
set_option maxRecDepth 20000
open Go.RowKit Go.BigFrame
set_option maxRecDepth 20000 in
set_option maxHeartbeats 4000000 in
theorem ratE_any (base0 q r : Nat) (S1 S2 : Nat → BitVec 8) (hr : 1 ≤ r) (hr2 : r ≤ 14) (a : Addr) (cap : Nat) (b t : Nat → BitVec 8) (w : World) (hP : RPairAt base0 q r S1 S2 w) (hB : LieAt a 16 (yv b) w) :
    Calls Tryz.prog 74 #[.pointer (some ⟨q, 0, none⟩), .slice (some a) 16 cap, .agg (row 16 (yv t)).toArray, .bool false] w fun e w' => ∃ v, e = .returned v ∧ OwnB w.heap.size 5 v 16 (yv (addF ((encF S1 bxT twT r) (addF b t)) t)) w' ∧ Below w.heap.size w w' := by
  have hz := store_Y16
  obtain ⟨c, hc⟩ : ∃ c, c = w.heap.size := ⟨_, rfl⟩
  obtain ⟨W2, hW2⟩ : ∃ W2, W2 = (w.alloc (.cells (row 16 (yv t)).toArray 52)).alloc (.cells (row 16 (yv fun _ => 0#8)).toArray 52) := ⟨_, rfl⟩
  have HE2 : Ext w W2 := by rw [hW2]; exact ((Below.refl _ _).alloc (Nat.le_refl _) _).alloc (by simp) _
  have HT2 : RowAt c 16 (yv t) W2 := by rw [hW2, hc]; exact (RowAt.new w 16 (yv t) 52).alloc _
  have HZ2 : RowAt (c + 1) 16 (yv fun _ => 0#8) W2 := by
    have h := RowAt.new (w.alloc (.cells (row 16 (yv t)).toArray 52)) 16 (yv fun _ => 0#8) 52
    rw [hW2, hc]; simpa using h
  replace HE2 := hideit HE2
  replace HT2 := hideit HT2
  replace HZ2 := hideit HZ2
  replace hW2 := hideit hW2
  replace hP := hideit hP
  replace hB := hideit hB
  go_enter Tryz.func74, Tryz.ntmps74
  go_upto_region 3 with (fail)
  rw [← hW2.out, ← hc]
  have hcw : w.heap.size ≤ c := by omega
  clear hc hW2 hz
  go_loopw [10] (fun i wr => ∃ m : Nat, m ≤ 16 ∧ i = .int .i64 (m : Int) ∧ RowAt c 16 (yv t) wr ∧ RowAt (c + 1) 16 (yv fun j => if j < m then addF b t j else 0#8) wr ∧ Ext w wr) (fun i _ => 16 - (intOf i).toNat)
  case atStart => exact ⟨0, by omega, rfl, HT2.out, HZ2.out.congr fun j _ => by simp only [yv]; rw [if_neg (by omega)], HE2.out⟩
  case round =>
    clear HT2 HZ2 HE2
    obtain ⟨m, hm, rfl, hT, hR, hE⟩ := hrel
    have HT := hideit hT
    have HR := hideit hR
    have HE := hideit hE
    by_cases hlt : m < 16
    · have m0 : (0 : Int) ≤ (m : Int) := by omega
      have m1 : (m : Int) < 16 := by omega
      have e1 := hR.1 m (by omega)
      have g1 := hR.2.1 m (by omega)
      have e2 : wr.cell? ⟨c, m, none⟩ = some (.int .u8 ((t m).toNat : Int)) := hT.1 m hlt
      have e3 : wr.cell? (a.add m) = some (.int .u8 ((b m).toNat : Int)) := (hB.out.carry hE).1 m hlt
      have o3 : bits .xor .u8 ((b m).toNat : Int) ((t m).toNat : Int) = ((addF b t m).toNat : Int) := xB_fact _ _
      clear hT hR hE
      go_upto_region 5 with (fail)
      go_region
      have HS := hideit (RowAt.set HR.out m (.int .u8 ((addF b t m).toNat : Int))).drew
      have HBu : But (c + 1) wr (wr.setCell ⟨c + 1, m, none⟩ (.int .u8 ((addF b t m).toNat : Int))).drew := (but_setCell _ _ _ _).drew
      have HE' : Hid (Ext w _) := hideit (Ext.but HE.out HBu (by omega))
      have HT' := hideit (RowAt.but HT.out HBu (by omega))
      clear HR HE HT HBu e1 g1 e2 e3
      generalize (wr.setCell ⟨c + 1, m, none⟩ (.int .u8 ((addF b t m).toNat : Int))).drew = Y at *
      go_wp2
      go_roundw
      case rel =>
        have h1 : RowAt (c + 1) 16 (yv fun j => if j < m + 1 then addF b t j else 0#8) Y := HS.out.congr fun j _ => by
          simp only [yv]
          by_cases e : j = m
          · subst e; rw [if_pos rfl, if_pos (by omega)]
          · rw [if_neg e]
            by_cases h : j < m
            · rw [if_pos h, if_pos (by omega)]
            · rw [if_neg h, if_neg (by omega)]
        first | exact ⟨(m + 1 : Nat), by omega, by go_num, HT'.out, h1, HE'.out⟩ | ((repeat apply Exists.intro); exact ⟨⟨m + 1, by omega, by go_num, HT'.out, h1, HE'.out⟩, rfl⟩)
      case measure => simp [intOf]; omega
    · obtain rfl : m = 16 := by omega
      clear hT hR hE
      obtain ⟨f, hf⟩ : ∃ f, f = addF b t := ⟨_, rfl⟩
      have HF : Hid (RowAt (c + 1) 16 (yv f) wr) := hideit (HR.out.congr fun j hj => by simp only [yv]; rw [if_pos hj, hf])
      clear HR
      obtain ⟨E, hEE⟩ : ∃ E, E = (encF S1 bxT twT r) f := ⟨_, rfl⟩
      obtain ⟨x1, kb1, cp1, x2, kb2, cp2, p1, p2, pw3, p4, p5, _⟩ := hP.out.ext (Ext.trans HE.out (Ext.draw (Ext.refl wr)))
      have e1 : ∀ k : Kept (Ext wr.drew), k.w.cell? ⟨q, 0, none⟩ = some (.pointer (some ⟨x1, 0, none⟩)) := fun k => (Below.cell k.ok (p := ⟨q, 0, none⟩) p5).trans p1
      replace pw3 := hideit pw3
      have hrn : Hid (∀ X, Ext wr.drew X → Calls Tryz.prog 93 #[.pointer (some ⟨x1, 0, none⟩), .agg (row 16 (yv f)).toArray] X fun e w' => e = .returned (.agg (row 16 (yv E)).toArray) ∧ Below X.heap.size X w') := fun X hX => by rw [hEE]; exact renc_as x1 kb1 cp1 r S1 f hr hr2 X (pw3.out.carry hX)
      replace hEE := hideit hEE
      replace hf := hideit hf
      clear p1 p2 pw3 p4
      have hne := kept_ne wr.drew
      go_upto_region 8 with (fail)
      refine wp_region_late 6 (by kernel_rfl) (by kernel_rfl) (by decide) ?_
      simp only [List.take_succ_cons, List.take_zero, List.drop_succ_cons, List.drop_zero]
      refine wpStrong_run 5 rfl ?_
      simp only [List.take_succ_cons, List.take_zero, List.drop_succ_cons, List.drop_zero]
      go_big_quiet_step (fail)
      go_big_quiet_step (fail)
      go_big_quiet_step (fail)
      go_big_quiet_step (fail)
      go_big_quiet_want
      refine loadQ 52 (.tmp 9) (c + 1) 0 16 (yv f) rfl rfl (fun w' hw' => (RowAt.carry (RowAt.drew HF.out) hw').range) Tryz.underlying52 rfl info32 ?_
      simp only [zp0, zp1, zp2, zp3]
      go_big_quiet_on
      refine wpQuiet_nil ?_
      refine wpStrong_call rfl (fun X => by simp [go_sem]) (fun X hX => hrn.out X hX) ?_
      simp only [zp0, zp1, zp2, zp3]
      refine wpStrong_nil ?_
      intro X hX
      have hX' : Ext wr X := Ext.trans ((Below.refl _ _).drew) hX
      have HFX := hideit (HF.out.carry hX')
      have HTX := hideit (HT.out.carry hX')
      have HEX : Hid (Ext w X) := hideit (Ext.trans HE.out hX')
      clear hne e1 hX hX' hrn HF HT HE p5
      refine wpList_store_mid rfl 52 (.tmp 9) (.tmp 39) rfl _ 0 (row 16 (yv E)).toArray rfl rfl (by rw [row_size]; exact HFX.out.there) (by rw [row_size]; exact info32) (row_one fun _ _ => rfl) ?_
      have HBu : But (c + 1) X (X.setCells (c + 1) 0 (row 16 (yv E))) := But.sets _ 0 _ (But.refl _ _)
      have HE3 := hideit (HFX.out.cells (g' := yv E))
      have HT3 := hideit (RowAt.but HTX.out HBu (by omega))
      have HX3 : Hid (Ext w _) := hideit (Ext.but HEX.out HBu (by omega))
      clear HFX HTX HEX HBu
      generalize X.setCells (c + 1) 0 (row 16 (yv E)) = Y at *
      simp only [Act.put]
      go_upto_region 11 with (fail)
      go_loopw [11, 12] (fun v i wr => ∃ m : Nat, m ≤ 16 ∧ i = .int .i64 (m : Int) ∧ RowAt c 16 (yv t) wr ∧ RowAt (c + 1) 16 (yv E) wr ∧ OwnB (c + 1 + 1) 5 v m (yv (addF E t)) wr ∧ Ext w wr) (fun _ i _ => 16 - (intOf i).toNat)
      case atStart => exact ⟨0, by omega, rfl, HT3.out, HE3.out, own_nil _ _ _ _, HX3.out⟩
      case round =>
        clear HT3 HE3 HX3
        obtain ⟨m, hm, rfl, hT, hR, hO, hE⟩ := hrel
        have HT := hideit hT
        have HR := hideit hR
        have HO := hideit hO
        have HE := hideit hE
        clear hT hR hO hE
        by_cases hlt : m < 16
        · have m0 : (0 : Int) ≤ (m : Int) := by omega
          have m1 : (m : Int) < 16 := by omega
          have e1 : ∀ k : Kept (Ext wr.drew), k.w.cell? ⟨c + 1, m, none⟩ = some (.int .u8 ((E m).toNat : Int)) := fun k => (HR.out.drew.carry k.ok).1 m hlt
          have e2 : ∀ k : Kept (Ext wr.drew), k.w.cell? ⟨c, m, none⟩ = some (.int .u8 ((t m).toNat : Int)) := fun k => (HT.out.drew.carry k.ok).1 m hlt
          have o3 : bits .xor .u8 ((E m).toNat : Int) ((t m).toNat : Int) = ((addF E t m).toNat : Int) := xB_fact _ _
          have hne := kept_ne wr.drew
          go_upto_region 13 with (fail)
          refine wp_region_mixn 8 2 _ _ rfl rfl (by kernel_rfl) (by kernel_rfl) (by decide +kernel) (by decide +kernel) (by decide +kernel) (by decide +kernel) ?_
          simp only [List.take_succ_cons, List.take_zero]
          refine wpStrong_run 8 rfl ?_
          simp only [List.take_succ_cons, List.take_zero, List.drop_succ_cons, List.drop_zero]
          repeat (go_big_quiet_step (fail))
          refine wpQuiet_nil ?_
          refine wpStrong_nil ?_
          clear e1 e2 hne
          refine ⟨1, fun _ => .int .u8 ((addF E t m).toNat : Int), fun b => .slice (some ⟨b, 0, none⟩) 1 1, ⟨rfl, fun X hX => ⟨#[.int .u8 ((addF E t m).toNat : Int)], 5, ?_, fun j hj => ?_⟩⟩, fun d X hd hX hR1 => ?_⟩
          · simp [go_sem]
          · obtain rfl : j = 0 := by omega
            rfl
          have hX' : Ext wr X := Ext.trans ((Below.refl _ _).drew) hX
          have HOX := HO.out.ext hX'
          simp only [zp0, zp1, zp2, zp3]
          refine wpList_grow elem22A rfl (.tmp 44) (.tmp 52) rfl rfl HOX ⟨d, 0, none⟩ 1 1 (fun _ => .int .u8 ((addF E t m).toNat : Int)) (yv (addF E t)) rfl (lie_of_row hR1) (fun _ _ => rfl) (fun _ _ => rfl) (fun j hj => by cases (show j = 0 by omega); rfl) (by omega) (by have := HR.out.2.2; have := Below.size hX'; omega) ?_
          intro v3 w3 ho hg
          have hlt3 := HOX.lt
          have H1 := hideit (RowAt.grown (HT.out.carry hX') hg (fun h => by have := (hlt3 c h.symm).1; omega))
          have H2 := hideit (RowAt.grown (HR.out.carry hX') hg (fun h => by have := (hlt3 (c + 1) h.symm).1; omega))
          have H3 : Hid (Ext w w3) := hideit (gr_ext (Ext.trans HE.out hX') hg (fun k h => by have := (hlt3 k h).1; omega))
          replace ho := hideit ho
          clear hg hlt3 HOX hR1 hX hX' hd HT HR HO HE
          simp only [zp0, zp1, zp2, zp3]
          go_wp2
          go_roundw
          case rel =>
            first | exact ⟨(m + 1 : Nat), by omega, by go_num, H1.out, H2.out, ho.out, H3.out⟩ | ((repeat apply Exists.intro); exact ⟨⟨m + 1, by omega, by go_num, H1.out, H2.out, ho.out, H3.out⟩, rfl⟩)
          case measure => simp [intOf]; omega
        · obtain rfl : m = 16 := by omega
          have HOF : OwnB w.heap.size 5 u11 16 (yv (addF ((encF S1 bxT twT r) (addF b t)) t)) wr := by
            rw [← hf.out, ← hEE.out]
            exact ⟨HO.out.1, HO.out.2.imp id fun ⟨g, cp, cur, k1, k2, k3⟩ => ⟨g, cp, cur, k1, by omega, k3⟩⟩
          replace HOF := hideit HOF
          go_wp2
          go_ret
          exact ⟨u11, rfl, HOF.out, HE.out⟩
end Go.Proofs.YtfpfgbhdehbggaaGreatDoor
