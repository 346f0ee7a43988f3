/-
  May a header be: the program's answer and the document's. A header as it is written. A header as it is written: its 44 bytes. The block of a header.
-/
import Derived.Test.YtenlokmoijeehaaDoorGo
import Derived.Test.YtenlokmoijeehaaDoorGn
namespace Go.Proofs.YtenlokmoijeehaaDoor
open Go.RowKit Go.BigFrame
theorem check_ok (h : Hd) (w : World) (hk : okH h) : Calls Tryd.prog 14 #[.agg (row 24 (hdv h)).toArray] w fun e w' => e = .returned (.int .i64 0) ∧ Ext w w' := by
  obtain ⟨⟨a1, a2, a3, a4, a5, a6⟩, a7⟩ := hk
  exact ck_2311 h w a2 a3 a4 a5 a6 a1 a7
theorem check_no (h : Hd) (w : World) (hk : ¬ okH h) : Calls Tryd.prog 14 #[.agg (row 24 (hdv h)).toArray] w fun e w' => e = .returned (.int .i64 1) ∧ Ext w w' := by
  by_cases a6 : 1 ≤ h.g.toNat
  · by_cases a1 : 1 ≤ h.se ∧ h.se ≤ 1024
    · by_cases a2 : 1 ≤ h.sl ∧ h.sl ≤ 8
      · by_cases a3 : 16 ≤ h.jo ∧ h.jo ≤ 256
        · by_cases a4 : 1 ≤ h.sg ∧ h.sg ≤ 16
          · by_cases a5 : h.sg + 10 ≤ h.jo
            · exact ck_2310 h w a1 a2 a3 a4 a5 a6 fun a7 => hk ⟨⟨a6, a1, a2, a3, a4, a5⟩, a7⟩
            · exact ck_221 h w a1 a2 a3 a4 a5 a6
          · exact ck_211 h w a1 a2 a3 a4 a6
        · exact ck_201 h w a1 a2 a3 a6
      · by_cases a3 : 16 ≤ h.jo ∧ h.jo ≤ 256
        · by_cases a4 : 1 ≤ h.sg ∧ h.sg ≤ 16
          · by_cases a5 : h.sg + 10 ≤ h.jo
            · exact ck_131 h w a1 a2 a3 a4 a5 a6
            · exact ck_121 h w a1 a2 a3 a4 a5 a6
          · exact ck_111 h w a1 a2 a3 a4 a6
        · exact ck_101 h w a1 a2 a3 a6
    · by_cases a3 : 16 ≤ h.jo ∧ h.jo ≤ 256
      · by_cases a4 : 1 ≤ h.sg ∧ h.sg ≤ 16
        · by_cases a5 : h.sg + 10 ≤ h.jo
          · exact ck_031 h w a1 a3 a4 a5 a6
          · exact ck_021 h w a1 a3 a4 a5 a6
        · exact ck_011 h w a1 a3 a4 a6
      · exact ck_001 h w a1 a3 a6
  · by_cases a1 : 1 ≤ h.se ∧ h.se ≤ 1024
    · by_cases a2 : 1 ≤ h.sl ∧ h.sl ≤ 8
      · by_cases a3 : 16 ≤ h.jo ∧ h.jo ≤ 256
        · by_cases a4 : 1 ≤ h.sg ∧ h.sg ≤ 16
          · by_cases a5 : h.sg + 10 ≤ h.jo
            · exact ck_230 h w a1 a2 a3 a4 a5 a6
            · exact ck_220 h w a1 a2 a3 a4 a5 a6
          · exact ck_210 h w a1 a2 a3 a4 a6
        · exact ck_200 h w a1 a2 a3 a6
      · by_cases a3 : 16 ≤ h.jo ∧ h.jo ≤ 256
        · by_cases a4 : 1 ≤ h.sg ∧ h.sg ≤ 16
          · by_cases a5 : h.sg + 10 ≤ h.jo
            · exact ck_130 h w a1 a2 a3 a4 a5 a6
            · exact ck_120 h w a1 a2 a3 a4 a5 a6
          · exact ck_110 h w a1 a2 a3 a4 a6
        · exact ck_100 h w a1 a2 a3 a6
    · by_cases a3 : 16 ≤ h.jo ∧ h.jo ≤ 256
      · by_cases a4 : 1 ≤ h.sg ∧ h.sg ≤ 16
        · by_cases a5 : h.sg + 10 ≤ h.jo
          · exact ck_030 h w a1 a3 a4 a5 a6
          · exact ck_020 h w a1 a3 a4 a5 a6
        · exact ck_010 h w a1 a3 a4 a6
      · exact ck_000 h w a1 a3 a6
theorem rcheck_ok (h : Hd) (w : World) (hk : okH h) : Calls Tryd.prog 15 #[.agg (row 24 (hdv h)).toArray] w fun e w' => e = .returned (.int .i64 0) ∧ Ext w w' := by
  obtain ⟨⟨a1, a2, a3, a4, a5, a6⟩, a7⟩ := hk
  exact rck_11 h w (by omega) (by omega) (by omega) (by omega) (by omega) (by omega) (by omega) (by omega) (by omega) (by omega) (fun hh => hh a7)
theorem rcheck_no (h : Hd) (w : World) (hk : ¬ okH h) : Calls Tryd.prog 15 #[.agg (row 24 (hdv h)).toArray] w fun e w' => e = .returned (.int .i64 1) ∧ Ext w w' := by
  by_cases a0 : h.g.toNat < 1
  · exact rck_0 h w a0
  by_cases a1 : h.se < 1
  · exact rck_1 h w a0 a1
  by_cases a2 : 1024 < h.se
  · exact rck_2 h w a0 a1 a2
  by_cases a3 : h.sl < 1
  · exact rck_3 h w a0 a1 a2 a3
  by_cases a4 : 8 < h.sl
  · exact rck_4 h w a0 a1 a2 a3 a4
  by_cases a5 : h.jo < 16
  · exact rck_5 h w a0 a1 a2 a3 a4 a5
  by_cases a6 : 256 < h.jo
  · exact rck_6 h w a0 a1 a2 a3 a4 a5 a6
  by_cases a7 : h.sg < 1
  · exact rck_7 h w a0 a1 a2 a3 a4 a5 a6 a7
  by_cases a8 : 16 < h.sg
  · exact rck_8 h w a0 a1 a2 a3 a4 a5 a6 a7 a8
  by_cases a9 : h.jo < h.sg + 10
  · exact rck_9 h w a0 a1 a2 a3 a4 a5 a6 a7 a8 a9
  exact rck_10 h w a0 a1 a2 a3 a4 a5 a6 a7 a8 a9 fun a7 => hk ⟨⟨by omega, by omega, by omega, by omega, by omega, by omega⟩, a7⟩
end Go.Proofs.YtenlokmoijeehaaDoor
namespace Go.Proofs.YtenlokmoijeehaaDoor
open Go.RowKit Go.BigFrame
/-- a block that is no row of bytes -/
def Typ (c : Nat) (w : World) : Prop := ∀ cur, w.heap[c]? ≠ some (.cells cur 5 (0, 0))
theorem typ_new (w : World) (C : Array Value) (t : TypeId) (h : t ≠ 5) : Typ w.heap.size (w.alloc (.cells C t)) := fun cur hh => by
  have h2 : (w.alloc (.cells C t)).heap[w.heap.size]? = some (.cells C t (0, 0)) := by
    show (w.heap.push (.cells C t))[w.heap.size]? = _
    simp
  rw [h2] at hh
  injection hh with hh
  injection hh with _ h3 _
  exact h h3
theorem RowAt.wx {c d n : Nat} {g : Nat → Value} {w X : World} (h : RowAt c n g w) (k : Wx d w X) (hc : c ≠ d) (ht : Typ c w) : RowAt c n g X := by
  have e := k.2 c h.2.2 hc ht
  exact ⟨fun j hj => (World.cell?_of_block (a := ⟨c, j, none⟩) e).trans (h.1 j hj), fun j hj => (World.frozen?_of_block (a := ⟨c, j, none⟩) e).trans (h.2.1 j hj), Nat.lt_of_lt_of_le h.2.2 k.1⟩
theorem Typ.wx {c d : Nat} {w X : World} (ht : Typ c w) (k : Wx d w X) (hl : c < w.heap.size) (hc : c ≠ d) : Typ c X := fun cur hh => ht cur ((k.2 c hl hc ht).symm.trans hh)
set_option maxRecDepth 20000 in
set_option maxHeartbeats 2000000 in
theorem put_int (c size n0 n : Nat) (f : Nat → BitVec 8) (bad : Bool) (x : BitVec 64) (w : World) (h : Wr c size n0 f bad w) (hn : n0 + n ≤ size) (hs : size ≤ 16777216) (hi : iswB n = true) (hn8 : n ≤ 8) (hx : x.toNat / 2 ^ (8 * n) = 0) :
    Calls Tryd.prog 43 #[.pointer (some ⟨c, 0, none⟩), .int .i64 (n : Int), .int .i64 (x.toNat : Int)] w fun e w' => e = .returned (.tuple #[]) ∧ Wr c size (n0 + n) (catF f n0 (byB x)) bad w' ∧ Below c w w' ∧ Wx c w w' := by
  have hc : IntKind.u64.wrap (x.toNat : Int) = (x.toNat : Int) := by
    have := x.isLt
    rw [IntKind.wrap_u64]; omega
  replace h := hideit h
  replace hi := hideit hi
  replace hx := hideit hx
  replace hn := hideit hn
  replace hn8 := hideit hn8
  go_enter Tryd.func43, Tryd.ntmps43
  go_wp2_with (go_at_call 58; refine (wuint_okx c size n0 n f bad x w h.out hn.out hs hi.out hn8.out hx.out).mono ?_; rintro e w2 ⟨rfl, hW2⟩; replace hW2 := hideit hW2)
  exact bodyPost_end (v := .tuple #[]) (by simp [results, Tryd.results43]) rfl ⟨rfl, hW2.out⟩
set_option maxRecDepth 20000 in
set_option maxHeartbeats 2000000 in
theorem put_u64 (c size n0 n : Nat) (f : Nat → BitVec 8) (bad : Bool) (x : BitVec 64) (w : World) (h : Wr c size n0 f bad w) (hn : n0 + n ≤ size) (hs : size ≤ 16777216) (hi : iswB n = true) (hn8 : n ≤ 8) (hx : x.toNat / 2 ^ (8 * n) = 0) :
    Calls Tryd.prog 42 #[.pointer (some ⟨c, 0, none⟩), .int .i64 (n : Int), .int .u64 (x.toNat : Int)] w fun e w' => e = .returned (.tuple #[]) ∧ Wr c size (n0 + n) (catF f n0 (byB x)) bad w' ∧ Below c w w' ∧ Wx c w w' := by
  replace h := hideit h
  replace hi := hideit hi
  replace hx := hideit hx
  replace hn := hideit hn
  replace hn8 := hideit hn8
  go_enter Tryd.func42, Tryd.ntmps42
  go_wp2_with (go_at_call 58; refine (wuint_okx c size n0 n f bad x w h.out hn.out hs hi.out hn8.out hx.out).mono ?_; rintro e w2 ⟨rfl, hW2⟩; replace hW2 := hideit hW2)
  exact bodyPost_end (v := .tuple #[]) (by simp [results, Tryd.results42]) rfl ⟨rfl, hW2.out⟩
/-- a number as 64 bits -/
def bI (x : Int) : BitVec 64 := BitVec.ofNat 64 x.toNat
theorem bI_nat {x : Int} (h0 : 0 ≤ x) (h1 : x < 65536) : ((bI x).toNat : Int) = x := by
  unfold bI
  rw [BitVec.toNat_ofNat]
  omega
theorem put_i (c size n0 n : Nat) (f : Nat → BitVec 8) (bad : Bool) (x : Int) (w : World) (h : Wr c size n0 f bad w) (hn : n0 + n ≤ size) (hs : size ≤ 16777216) (hi : iswB n = true) (hn8 : n ≤ 8) (h0 : 0 ≤ x) (h1 : x < 65536) (h2 : x.toNat < 2 ^ (8 * n)) :
    Calls Tryd.prog 43 #[.pointer (some ⟨c, 0, none⟩), .int .i64 (n : Int), .int .i64 x] w fun e w' => e = .returned (.tuple #[]) ∧ Wr c size (n0 + n) (catF f n0 (byB (bI x))) bad w' ∧ Below c w w' ∧ Wx c w w' := by
  have e := bI_nat h0 h1
  have k := put_int c size n0 n f bad (bI x) w h hn hs hi hn8 (Nat.div_eq_of_lt (by rw [show (bI x).toNat = x.toNat by omega]; exact h2))
  rwa [e] at k
def ppF (f : Nat → BitVec 8) (n0 : Nat) (ti me la : Int) : Nat → BitVec 8 := catF (catF (catF f n0 (byB (bI ti))) (n0 + 1) (byB (bI me))) (n0 + 1 + 2) (byB (bI la))
set_option maxRecDepth 20000 in
set_option maxHeartbeats 2000000 in
theorem put_pa (d size n0 : Nat) (f : Nat → BitVec 8) (bad : Bool) (ti me la : Int) (w : World) (h : Wr d size n0 f bad w) (hn : n0 + 4 ≤ size) (hs : size ≤ 16777216) (hk : okP ti me la) :
    Calls Tryd.prog 44 #[.pointer (some ⟨d, 0, none⟩), .agg (row 3 (pav ti me la)).toArray] w fun e w' => e = .returned (.tuple #[]) ∧ Wr d size (n0 + 1 + 2 + 1) (ppF f n0 ti me la) bad w' ∧ Below d w w' ∧ Wx d w w' := by
  have H0 : Hid (RowAt w.heap.size 3 (pav ti me la) (w.alloc (.cells (row 3 (pav ti me la)).toArray 24))) := RowAt.new w 3 _ 24
  have hE0 : Hid (Ext w (w.alloc (.cells (row 3 (pav ti me la)).toArray 24))) := (Below.refl _ _).alloc (Nat.le_refl _) _
  have T0 : Hid (Typ w.heap.size (w.alloc (.cells (row 3 (pav ti me la)).toArray 24))) := typ_new w _ 24 (by decide)
  have hdw := h.lt
  have W0 := hideit (h.ext hE0.out)
  have hk1 : 0 ≤ ti ∧ ti < 256 := by obtain ⟨a, b, c⟩ := hk; omega
  have hk2 : 0 ≤ me ∧ me < 65536 := by obtain ⟨a, b, c⟩ := hk; omega
  have hk3 : 0 ≤ la ∧ la < 256 := by obtain ⟨a, b, c⟩ := hk; omega
  replace hk1 := hideit hk1
  replace hk2 := hideit hk2
  replace hk3 := hideit hk3
  replace hn := hideit hn
  clear h hk
  go_enter Tryd.func44, Tryd.ntmps44
  go_upto_region 1 with (fail)
  obtain ⟨w1, hw1⟩ : ∃ w1, w1 = w.alloc (.cells (row 3 (pav ti me la)).toArray 24) := ⟨_, rfl⟩
  rw [← hw1] at H0 hE0 T0 W0 ⊢
  clear hw1
  obtain ⟨c, hc⟩ : ∃ c, c = w.heap.size := ⟨_, rfl⟩
  rw [← hc] at H0 T0 ⊢
  have hcd : Hid (c ≠ d) := hideit (by omega)
  have hdw' : Hid (d ≤ w.heap.size) := hideit (by omega)
  clear hc hdw
  have e0 : w1.cell? ⟨c, 0, none⟩ = some (.int .i64 ti) := H0.out.1 0 (by decide)
  have k := hideit (put_i d size n0 1 f bad ti w1 W0.out (by have := hn.out; omega) hs (by decide) (by decide) hk1.out.1 (by have := hk1.out; omega) (by have := hk1.out; omega))
  go_upto_region 2 with (go_at_call 43; refine k.out.mono ?_; rintro e w2 ⟨rfl, hW2, hB2, hX2⟩; replace hW2 := hideit hW2; replace hB2 := hideit hB2; replace hX2 := hideit hX2)
  have H2 := hideit (RowAt.wx H0.out hX2.out hcd.out T0.out)
  have T2 := hideit (Typ.wx T0.out hX2.out H0.out.2.2 hcd.out)
  have hL2 := hideit (Below.trans (Below.mono hE0.out hdw'.out) hB2.out)
  have hV2 := hideit (Wx.trans (Wx.of_ext (d := d) hE0.out) hX2.out)
  clear k e0 H0 hE0 T0 W0 hB2 hX2
  have e0 : w2.cell? ⟨c, 1, none⟩ = some (.int .i64 me) := H2.out.1 1 (by decide)
  have k := hideit (put_i d size (n0 + 1) 2 _ bad me w2 hW2.out (by have := hn.out; omega) hs (by decide) (by decide) hk2.out.1 hk2.out.2 (by have := hk2.out; omega))
  go_upto_region 3 with (go_at_call 43; refine k.out.mono ?_; rintro e w3 ⟨rfl, hW3, hB3, hX3⟩; replace hW3 := hideit hW3; replace hB3 := hideit hB3; replace hX3 := hideit hX3)
  have H3 := hideit (RowAt.wx H2.out hX3.out hcd.out T2.out)
  have hL3 := hideit (Below.trans hL2.out hB3.out)
  have hV3 := hideit (Wx.trans hV2.out hX3.out)
  clear k e0 H2 T2 hB3 hX3 hL2 hV2 hW2
  have e0 : w3.cell? ⟨c, 2, none⟩ = some (.int .i64 la) := H3.out.1 2 (by decide)
  have k := hideit (put_i d size (n0 + 1 + 2) 1 _ bad la w3 hW3.out (by have := hn.out; omega) hs (by decide) (by decide) hk3.out.1 (by have := hk3.out; omega) (by have := hk3.out; omega))
  go_wp2_with (go_at_call 43; refine k.out.mono ?_; rintro e w4 ⟨rfl, hW4, hB4, hX4⟩; replace hW4 := hideit hW4; replace hB4 := hideit hB4; replace hX4 := hideit hX4)
  exact bodyPost_end (v := .tuple #[]) (by simp [results, Tryd.results44]) rfl ⟨rfl, hW4.out, Below.trans hL3.out hB4.out, Wx.trans hV3.out hX4.out⟩
end Go.Proofs.YtenlokmoijeehaaDoor
namespace Go.Proofs.YtenlokmoijeehaaDoor
open Go.RowKit Go.BigFrame
def hm1 (h : Hd) : Nat → BitVec 8 := catF (catF (catF (catF (catF (bT [67, 65, 83, 75, 69, 84, 48, 49]) 8 (byB h.g)) 16 (byB (bI h.se))) 20 (byB (bI h.sl))) 21 (byB (bI h.jo))) 23 (byB (bI h.sg))
/-- the bytes ahead of the zeros -/
def hdF (h : Hd) : Nat → BitVec 8 := catF (ppF (hm1 h) 24 h.ti h.me h.la) 28 h.nm
theorem add_none (c o j : Nat) : (⟨c, o, none⟩ : Addr).add j = ⟨c, o + j, none⟩ := by
  unfold Addr.add
  by_cases h : j = 0
  · subst h; rw [if_pos rfl]; rfl
  · rw [if_neg h]
theorem name_bytes {c : Nat} {h : Hd} {w : World} (H : RowAt c 24 (hdv h) w) : BV (.slice (some ⟨c, 8, none⟩) 16 16) 16 h.nm w :=
  .inr ⟨_, 16, rfl, Nat.le_refl _, fun j hj => by
    rw [add_none, H.1 (8 + j) (by omega)]
    unfold hdv yv
    rw [if_neg (by omega), if_neg (by omega), if_neg (by omega), if_neg (by omega), if_neg (by omega), if_neg (by omega), if_neg (by omega), if_neg (by omega), Nat.add_sub_cancel_left], H.2.2⟩
set_option maxRecDepth 20000 in
set_option maxHeartbeats 2000000 in
theorem put_hd (d size : Nat) (f : Nat → BitVec 8) (bad : Bool) (h : Hd) (w : World) (hw : Wr d size 0 f bad w) (hn : 44 ≤ size) (hs : size ≤ 16777216) (hk : okH h) :
    Calls Tryd.prog 21 #[.pointer (some ⟨d, 0, none⟩), .agg (row 24 (hdv h)).toArray] w fun e w' => e = .returned (.tuple #[]) ∧ Wr d size 44 (hdF h) bad w' ∧ Below d w w' ∧ Wx d w w' := by
  have H0 : Hid (RowAt w.heap.size 24 (hdv h) (w.alloc (.cells (row 24 (hdv h)).toArray 27))) := RowAt.new w 24 _ 27
  have hE0 : Hid (Ext w (w.alloc (.cells (row 24 (hdv h)).toArray 27))) := (Below.refl _ _).alloc (Nat.le_refl _) _
  have T0 : Hid (Typ w.heap.size (w.alloc (.cells (row 24 (hdv h)).toArray 27))) := typ_new w _ 27 (by decide)
  have hdw := hw.lt
  have W0 := hideit (hw.ext hE0.out)
  replace hk := hideit hk
  replace hn := hideit hn
  clear hw
  go_enter Tryd.func21, Tryd.ntmps21
  go_upto_region 1 with (fail)
  obtain ⟨w1, hw1⟩ : ∃ w1, w1 = w.alloc (.cells (row 24 (hdv h)).toArray 27) := ⟨_, rfl⟩
  rw [← hw1] at H0 hE0 T0 W0 ⊢
  clear hw1
  obtain ⟨c, hc⟩ : ∃ c, c = w.heap.size := ⟨_, rfl⟩
  rw [← hc] at H0 T0 ⊢
  have hcd : Hid (c ≠ d) := hideit (by omega)
  have hdw' : Hid (d ≤ w.heap.size) := hideit (by omega)
  clear hc hdw
  obtain ⟨x1, hcv, hB1, hE1⟩ := constB w1 #[.int .u8 67, .int .u8 65, .int .u8 83, .int .u8 75, .int .u8 69, .int .u8 84, .int .u8 48, .int .u8 49] 8 (bT [67, 65, 83, 75, 69, 84, 48, 49]) (fun j hj => by
    rcases (by omega : j = 0 ∨ j = 1 ∨ j = 2 ∨ j = 3 ∨ j = 4 ∨ j = 5 ∨ j = 6 ∨ j = 7) with rfl | rfl | rfl | rfl | rfl | rfl | rfl | rfl <;> rfl)
  refine wp_region_lit ?_
  refine wpList_run rfl (.pointer (some ⟨d, 0, none⟩)) (by simp [go_sem]) ?_
  simp only [Act.put, List.setIfInBounds_toArray, List.set_cons_zero, List.set_cons_succ]
  refine wpList_to rfl (.slice (some ⟨w1.heap.size, 0, none⟩) 8 8) (w1.alloc (.cells #[.int .u8 67, .int .u8 65, .int .u8 83, .int .u8 75, .int .u8 69, .int .u8 84, .int .u8 48, .int .u8 49] 5)) (by simp [go_sem]) ?_
  simp only [Act.put, List.setIfInBounds_toArray, List.set_cons_zero, List.set_cons_succ]
  refine wpList_to rfl (.slice (some ⟨w1.heap.size, 0, none⟩) 8 8) (x1) (by simp [go_sem, hcv]) ?_
  simp only [Act.put, List.setIfInBounds_toArray, List.set_cons_zero, List.set_cons_succ]
  have W1 := hideit (W0.out.ext hE1)
  have H1 := hideit (H0.out.carry hE1)
  have T1 := hideit (Typ.wx T0.out (Wx.of_ext (d := d) hE1) H0.out.2.2 hcd.out)
  have hE01 := hideit (Ext.trans hE0.out hE1)
  replace hB1 := hideit hB1
  clear W0 H0 T0 hE0 hE1 hcv
  refine wpList_call rfl (by simp [go_sem]; exact ⟨rfl, rfl⟩) ?_
  refine (wbytes_okx d size 0 8 _ (bT [67, 65, 83, 75, 69, 84, 48, 49]) bad _ x1 W1.out (by have := hn.out; omega) hs hB1.out).mono ?_
  rintro e w2 ⟨rfl, W2, L2, X2⟩
  refine ⟨_, rfl, ?_⟩
  simp only [Act.put, List.setIfInBounds_toArray, List.set_cons_zero, List.set_cons_succ]
  replace W2 := hideit (W2.congr (g := bT [67, 65, 83, 75, 69, 84, 48, 49]) fun j hj => by unfold catF; rw [if_neg (by omega), Nat.sub_zero])
  have H2 := hideit (RowAt.wx H1.out X2 hcd.out T1.out)
  have T2 := hideit (Typ.wx T1.out X2 H1.out.2.2 hcd.out)
  replace L2 := hideit (Below.trans (Below.mono hE01.out hdw'.out) L2)
  have V2 := hideit (Wx.trans (Wx.of_ext (d := d) hE01.out) X2)
  clear hE01 W1 H1 T1 hB1 X2
  have e0 : w2.cell? ⟨c, 0, none⟩ = some (.int .u64 (h.g.toNat : Int)) := H2.out.1 0 (by decide)
  have k := hideit (put_u64 d size 8 8 _ bad h.g w2 W2.out (by have := hn.out; omega) hs (by decide) (by decide) (Nat.div_eq_of_lt h.g.isLt))
  go_upto_region 3 with (go_at_call 42; refine k.out.mono ?_; rintro e w3 ⟨rfl, W3, L3, X3⟩; replace W3 := hideit W3; replace L3 := hideit L3; replace X3 := hideit X3)
  have H3 := hideit (RowAt.wx H2.out X3.out hcd.out T2.out)
  have T3 := hideit (Typ.wx T2.out X3.out H2.out.2.2 hcd.out)
  replace L3 := hideit (Below.trans L2.out L3.out)
  have V3 := hideit (Wx.trans V2.out X3.out)
  clear k e0 W2 H2 T2 L2 V2 X3
  have e0 : w3.cell? ⟨c, 1, none⟩ = some (.int .i64 h.se) := H3.out.1 1 (by decide)
  have k := hideit (put_i d size 16 4 _ bad h.se w3 W3.out (by have := hn.out; omega) hs (by decide) (by decide) (by obtain ⟨⟨_, _, _, _, _, _⟩, _⟩ := hk.out; omega) (by obtain ⟨⟨_, _, _, _, _, _⟩, _⟩ := hk.out; omega) (by obtain ⟨⟨_, _, _, _, _, _⟩, _⟩ := hk.out; omega))
  go_upto_region 4 with (go_at_call 43; refine k.out.mono ?_; rintro e w4 ⟨rfl, W4, L4, X4⟩; replace W4 := hideit W4; replace L4 := hideit L4; replace X4 := hideit X4)
  have H4 := hideit (RowAt.wx H3.out X4.out hcd.out T3.out)
  have T4 := hideit (Typ.wx T3.out X4.out H3.out.2.2 hcd.out)
  replace L4 := hideit (Below.trans L3.out L4.out)
  have V4 := hideit (Wx.trans V3.out X4.out)
  clear k e0 W3 H3 T3 L3 V3 X4
  have e0 : w4.cell? ⟨c, 2, none⟩ = some (.int .i64 h.sl) := H4.out.1 2 (by decide)
  have k := hideit (put_i d size 20 1 _ bad h.sl w4 W4.out (by have := hn.out; omega) hs (by decide) (by decide) (by obtain ⟨⟨_, _, _, _, _, _⟩, _⟩ := hk.out; omega) (by obtain ⟨⟨_, _, _, _, _, _⟩, _⟩ := hk.out; omega) (by obtain ⟨⟨_, _, _, _, _, _⟩, _⟩ := hk.out; omega))
  go_upto_region 5 with (go_at_call 43; refine k.out.mono ?_; rintro e w5 ⟨rfl, W5, L5, X5⟩; replace W5 := hideit W5; replace L5 := hideit L5; replace X5 := hideit X5)
  have H5 := hideit (RowAt.wx H4.out X5.out hcd.out T4.out)
  have T5 := hideit (Typ.wx T4.out X5.out H4.out.2.2 hcd.out)
  replace L5 := hideit (Below.trans L4.out L5.out)
  have V5 := hideit (Wx.trans V4.out X5.out)
  clear k e0 W4 H4 T4 L4 V4 X5
  have e0 : w5.cell? ⟨c, 3, none⟩ = some (.int .i64 h.jo) := H5.out.1 3 (by decide)
  have k := hideit (put_i d size 21 2 _ bad h.jo w5 W5.out (by have := hn.out; omega) hs (by decide) (by decide) (by obtain ⟨⟨_, _, _, _, _, _⟩, _⟩ := hk.out; omega) (by obtain ⟨⟨_, _, _, _, _, _⟩, _⟩ := hk.out; omega) (by obtain ⟨⟨_, _, _, _, _, _⟩, _⟩ := hk.out; omega))
  go_upto_region 6 with (go_at_call 43; refine k.out.mono ?_; rintro e w6 ⟨rfl, W6, L6, X6⟩; replace W6 := hideit W6; replace L6 := hideit L6; replace X6 := hideit X6)
  have H6 := hideit (RowAt.wx H5.out X6.out hcd.out T5.out)
  have T6 := hideit (Typ.wx T5.out X6.out H5.out.2.2 hcd.out)
  replace L6 := hideit (Below.trans L5.out L6.out)
  have V6 := hideit (Wx.trans V5.out X6.out)
  clear k e0 W5 H5 T5 L5 V5 X6
  have e0 : w6.cell? ⟨c, 4, none⟩ = some (.int .i64 h.sg) := H6.out.1 4 (by decide)
  have k := hideit (put_i d size 23 1 _ bad h.sg w6 W6.out (by have := hn.out; omega) hs (by decide) (by decide) (by obtain ⟨⟨_, _, _, _, _, _⟩, _⟩ := hk.out; omega) (by obtain ⟨⟨_, _, _, _, _, _⟩, _⟩ := hk.out; omega) (by obtain ⟨⟨_, _, _, _, _, _⟩, _⟩ := hk.out; omega))
  go_upto_region 7 with (go_at_call 43; refine k.out.mono ?_; rintro e w7 ⟨rfl, W7, L7, X7⟩; replace W7 := hideit W7; replace L7 := hideit L7; replace X7 := hideit X7)
  have H7 := hideit (RowAt.wx H6.out X7.out hcd.out T6.out)
  have T7 := hideit (Typ.wx T6.out X7.out H6.out.2.2 hcd.out)
  replace L7 := hideit (Below.trans L6.out L7.out)
  have V7 := hideit (Wx.trans V6.out X7.out)
  clear k e0 W6 H6 T6 L6 V6 X7
  have k := hideit (put_pa d size 24 (hm1 h) bad h.ti h.me h.la w7 W7.out (by have := hn.out; omega) hs hk.out.2)
  refine wp_region_lit ?_
  refine wpList_run rfl (.pointer (some ⟨d, 0, none⟩)) (by simp [go_sem]) ?_
  simp only [Act.put, List.setIfInBounds_toArray, List.set_cons_zero, List.set_cons_succ]
  refine wpList_run rfl (.pointer (some ⟨c, 5, none⟩)) (by simp [go_sem]) ?_
  simp only [Act.put, List.setIfInBounds_toArray, List.set_cons_zero, List.set_cons_succ]
  refine wpList_run rfl (.agg (row 3 (pav h.ti h.me h.la)).toArray) (exec_loadR 24 (.tmp 29) rfl c 5 3 _ rfl (hd_pa H7.out) Tryd.underlying24 rfl infoP) ?_
  simp only [Act.put, List.setIfInBounds_toArray, List.set_cons_zero, List.set_cons_succ]
  refine wpList_call rfl (by simp [go_sem]; exact ⟨rfl, rfl⟩) ?_
  refine (k.out).mono ?_
  rintro e w8 ⟨rfl, W8, L8, X8⟩
  refine ⟨_, rfl, ?_⟩
  simp only [Act.put, List.setIfInBounds_toArray, List.set_cons_zero, List.set_cons_succ]
  replace W8 := hideit W8
  have H8 := hideit (RowAt.wx H7.out X8 hcd.out T7.out)
  replace L8 := hideit (Below.trans L7.out L8)
  have V8 := hideit (Wx.trans V7.out X8)
  clear k W7 H7 T7 L7 V7 X8
  have hB := hideit (name_bytes H8.out)
  have k := hideit (wbytes_okx d size 28 16 _ h.nm bad _ w8 W8.out (by have := hn.out; omega) hs hB.out)
  go_wp2_with (go_at_call 24; refine k.out.mono ?_; rintro e w9 ⟨rfl, W9, L9, X9⟩; replace W9 := hideit W9; replace L9 := hideit L9; replace X9 := hideit X9)
  exact bodyPost_end (v := .tuple #[]) (by simp [results, Tryd.results21]) rfl ⟨rfl, W9.out, Below.trans L8.out L9.out, Wx.trans V8.out X9.out⟩
end Go.Proofs.YtenlokmoijeehaaDoor
namespace Go.Proofs.YtenlokmoijeehaaDoor
open Go.RowKit Go.BigFrame
theorem info52 : (Tryd.prog.info? 52).map (·.size) = some 32 := by kernel_rfl
theorem zero52 (w : World) : (zeroValue 52).run Tryd.prog w = .ok (.agg (row 32 (yv fun _ => 0#8)).toArray) w := by kernel_rfl
theorem exec_alloc {P : Program} {o : Oper} {a : Act} {w : World} (t : TypeId) (Z : Array Value) (ho : o.op = .alloc t) (hz : (zeroValue t).run P w = .ok (.agg Z) w) : (execOp a.eval o).run P w = .ok (.value (.pointer (some ⟨w.heap.size, 0, none⟩))) (w.alloc (.cells Z t)) := by
  unfold execOp
  simp [ho, Instr.alloc, hz, newVar, newRow, Value.cells]
theorem RowAt.bv {b n : Nat} {f : Nat → BitVec 8} {w : World} (h : RowAt b n (yv f) w) (m : Nat) (hm : m ≤ n) : BV (.slice (some ⟨b, 0, none⟩) m n) m f w := .inr ⟨_, n, rfl, hm, h.lie m hm⟩
/-- the bytes of a header's block -/
def hzF (h : Hd) : Nat → BitVec 8 := padF (hdF h) 44
def hbF (h : Hd) : Nat → BitVec 8 := catF (hzF h) 480 (shaF (hzF h) 480)
set_option maxRecDepth 20000 in
set_option maxHeartbeats 2000000 in
theorem enc_no (h : Hd) (w : World) (hk : ¬ okH h) : Calls Tryd.prog 8 #[.agg (row 24 (hdv h)).toArray] w fun e w' => e = .returned (.tuple #[.slice none 0 0, .int .i64 1]) ∧ Ext w w' := by
  have H0 : Hid (RowAt w.heap.size 24 (hdv h) (w.alloc (.cells (row 24 (hdv h)).toArray 27))) := RowAt.new w 24 _ 27
  have hE0 : Hid (Ext w (w.alloc (.cells (row 24 (hdv h)).toArray 27))) := (Below.refl _ _).alloc (Nat.le_refl _) _
  go_enter Tryd.func8, Tryd.ntmps8
  go_upto_region 1 with (fail)
  generalize w.alloc (.cells (row 24 (hdv h)).toArray 27) = w1 at *
  obtain ⟨c, hc⟩ : ∃ c, c = w.heap.size := ⟨_, rfl⟩
  rw [← hc] at H0 ⊢
  clear hc
  have k := hideit (check_no h w1 hk)
  refine wp_region_lit ?_
  refine wpList_run rfl (.agg (row 24 (hdv h)).toArray) (exec_loadR 27 (.tmp 1) rfl c 0 24 _ rfl H0.out.range Tryd.underlying27 rfl infoH) ?_
  simp only [Act.put, List.setIfInBounds_toArray, List.set_cons_zero, List.set_cons_succ]
  refine wpList_call rfl (by simp [go_sem]; exact ⟨rfl, rfl⟩) ?_
  refine (k.out).mono ?_
  rintro e w2 ⟨rfl, hE2⟩
  refine ⟨_, rfl, ?_⟩
  simp only [Act.put, List.setIfInBounds_toArray, List.set_cons_zero, List.set_cons_succ]
  replace hE2 := hideit hE2
  go_wp2
  go_ret2
  exact ⟨rfl, Ext.trans hE0.out hE2.out⟩
set_option maxRecDepth 20000 in
set_option maxHeartbeats 2000000 in
theorem enc_ok (h : Hd) (w : World) (hk : okH h) (hC : TabC w) : Calls Tryd.prog 8 #[.agg (row 24 (hdv h)).toArray] w fun e w' => ∃ g, e = .returned (.tuple #[.slice (some ⟨g, 0, none⟩) 512 512, .int .i64 0]) ∧ w.heap.size ≤ g ∧ RowAt g 512 (yv (hbF h)) w' ∧ Ext w w' := by
  have H0 : Hid (RowAt w.heap.size 24 (hdv h) (w.alloc (.cells (row 24 (hdv h)).toArray 27))) := RowAt.new w 24 _ 27
  have hE0 : Hid (Ext w (w.alloc (.cells (row 24 (hdv h)).toArray 27))) := (Below.refl _ _).alloc (Nat.le_refl _) _
  replace hC := hideit hC
  replace hk := hideit hk
  go_enter Tryd.func8, Tryd.ntmps8
  go_upto_region 1 with (fail)
  generalize w.alloc (.cells (row 24 (hdv h)).toArray 27) = w1 at *
  obtain ⟨c, hc⟩ : ∃ c, c = w.heap.size := ⟨_, rfl⟩
  rw [← hc] at H0 ⊢
  replace hc := hideit hc
  have k := hideit (check_ok h w1 hk.out)
  refine wp_region_lit ?_
  refine wpList_run rfl (.agg (row 24 (hdv h)).toArray) (exec_loadR 27 (.tmp 1) rfl c 0 24 _ rfl H0.out.range Tryd.underlying27 rfl infoH) ?_
  simp only [Act.put, List.setIfInBounds_toArray, List.set_cons_zero, List.set_cons_succ]
  refine wpList_call rfl (by simp [go_sem]; exact ⟨rfl, rfl⟩) ?_
  refine (k.out).mono ?_
  rintro e w2 ⟨rfl, hE2⟩
  refine ⟨_, rfl, ?_⟩
  simp only [Act.put, List.setIfInBounds_toArray, List.set_cons_zero, List.set_cons_succ]
  have H2 := hideit (H0.out.carry hE2)
  replace hE2 := hideit (Ext.trans hE0.out hE2)
  clear k H0 hE0
  go_upto_region 4 with (fail)
  have k := hideit (neww_any 480 (fun _ => 0#8) w2 (by decide))
  go_upto_region 5 with (go_at_call 20; refine k.out.mono ?_; rintro e w3 ⟨rfl, W3, hE3⟩; replace W3 := hideit W3; replace hE3 := hideit hE3)
  obtain ⟨d, hd⟩ : ∃ d, d = w2.heap.size := ⟨_, rfl⟩
  rw [← hd] at W3 ⊢
  have hwd : Hid (w.heap.size ≤ d) := hideit (by rw [hd]; exact Below.size hE2.out)
  have H3 := hideit (H2.out.carry hE3.out)
  replace hE3 := hideit (Ext.trans hE2.out hE3.out)
  clear k H2 hE2 hd
  have k := hideit (put_hd d 480 _ false h w3 W3.out (by decide) (by decide) hk.out)
  refine wp_region_lit ?_
  refine wpList_run rfl (.pointer (some ⟨d, 0, none⟩)) (by simp [go_sem]) ?_
  simp only [Act.put, List.setIfInBounds_toArray, List.set_cons_zero, List.set_cons_succ]
  refine wpList_run rfl (.agg (row 24 (hdv h)).toArray) (exec_loadR 27 (.tmp 1) rfl c 0 24 _ rfl H3.out.range Tryd.underlying27 rfl infoH) ?_
  simp only [Act.put, List.setIfInBounds_toArray, List.set_cons_zero, List.set_cons_succ]
  refine wpList_call rfl (by simp [go_sem]; exact ⟨rfl, rfl⟩) ?_
  refine (k.out).mono ?_
  rintro e w4 ⟨rfl, W4, L4, _⟩
  refine ⟨_, rfl, ?_⟩
  simp only [Act.put, List.setIfInBounds_toArray, List.set_cons_zero, List.set_cons_succ]
  replace W4 := hideit W4
  have hE4 := hideit (Below.trans hE3.out (Below.mono L4 hwd.out))
  clear k H3 hE3 L4 W3 hwd
  have k := hideit (wdone_ok d 480 44 (hdF h) w4 W4.out (by decide) (by decide))
  go_upto_region 9 with (go_at_call 22; refine k.out.mono ?_; rintro e w5 ⟨g, rfl, hg5, G5, hE5⟩; replace hg5 := hideit hg5; replace G5 := hideit G5; replace hE5 := hideit hE5)
  replace hE5 := hideit (Ext.trans hE4.out hE5.out)
  clear k W4 hg5 hE4
  have k := hideit (sumV (.slice (some ⟨g, 0, none⟩) 480 480) 480 (hzF h) w5 (RowAt.bv G5.out 480 (by decide)) (hC.out.ext hE5.out) (by decide))
  obtain ⟨D, hD⟩ : ∃ D, D = shaF (hzF h) 480 := ⟨_, rfl⟩
  rw [← hD] at k
  replace hD := hideit hD
  refine wp_region_lit ?_
  refine wpList_run rfl (.slice (some ⟨g, 0, none⟩) 480 480) (by simp [go_sem]) ?_
  simp only [Act.put, List.setIfInBounds_toArray, List.set_cons_zero, List.set_cons_succ]
  refine wpList_call rfl (by simp [go_sem]; exact ⟨rfl, rfl⟩) ?_
  refine (k.out).mono ?_
  rintro e w6 ⟨rfl, hE6⟩
  refine ⟨_, rfl, ?_⟩
  simp only [Act.put, List.setIfInBounds_toArray, List.set_cons_zero, List.set_cons_succ]
  have G6 := hideit (G5.out.carry hE6)
  replace hE6 := hideit (Ext.trans hE5.out hE6)
  have hg6 : Hid (g < w6.heap.size) := hideit G6.out.2.2
  clear k G5 hE5
  have HN := hideit (RowAt.new w6 32 (yv fun _ => 0#8) 52)
  have hE7 : Ext w6 (w6.alloc (.cells (row 32 (yv fun _ => 0#8)).toArray 52)) := (Below.refl _ _).alloc (Nat.le_refl _) _
  refine wpList_to rfl (.pointer (some ⟨w6.heap.size, 0, none⟩)) (w6.alloc (.cells (row 32 (yv fun _ => 0#8)).toArray 52)) (exec_alloc 52 (row 32 (yv fun _ => 0#8)).toArray rfl (zero52 w6)) ?_
  simp only [Act.put, List.setIfInBounds_toArray, List.set_cons_zero, List.set_cons_succ]
  refine wpList_store_mid rfl 52 (.tmp 8) (.tmp 27) rfl _ 0 (row 32 (yv D)).toArray rfl rfl (by rw [row_size]; exact HN.out.there) (by rw [row_size]; exact info52) (row_one fun _ _ => rfl) ?_
  have HD7 := hideit (HN.out.cells (g' := yv D))
  have G7 := hideit ((G6.out.carry hE7).cellsOther (c := w6.heap.size) (by have := hg6.out; omega) (row 32 (yv D)) 0)
  have hE8 := hideit (below_setCells w6.heap.size (Below.size hE6.out) (row 32 (yv D)) 0 _ (Ext.trans hE6.out hE7))
  generalize (w6.alloc (.cells (row 32 (yv fun _ => 0#8)).toArray 52)).setCells w6.heap.size 0 (row 32 (yv D)) = w7 at *
  generalize w6.heap.size = b at *
  clear HN hE7 G6 hE6 hg6
  simp only [Act.put]
  go_upto_region 10 with (fail)
  have k := hideit (neww_any 512 (fun _ => 0#8) w7 (by decide))
  go_upto_region 11 with (go_at_call 20; refine k.out.mono ?_; rintro e w8 ⟨rfl, W8, hE9⟩; replace W8 := hideit W8; replace hE9 := hideit hE9)
  obtain ⟨d2, hd2⟩ : ∃ d2, d2 = w7.heap.size := ⟨_, rfl⟩
  rw [← hd2] at W8 ⊢
  have hwd : Hid (w.heap.size ≤ d2) := hideit (by rw [hd2]; exact Below.size hE8.out)
  have hbd : Hid (b < d2) := hideit (by rw [hd2]; exact HD7.out.2.2)
  have G8 := hideit (G7.out.carry hE9.out)
  have D8 := hideit (HD7.out.carry hE9.out)
  replace hE9 := hideit (Ext.trans hE8.out hE9.out)
  clear k G7 HD7 hE8 hd2
  have k := hideit (wbytes_ok d2 512 0 480 _ (hzF h) false _ w8 W8.out (by decide) (by decide) (RowAt.bv G8.out 480 (by decide)))
  go_upto_region 12 with (go_at_call 24; refine k.out.mono ?_; rintro e w9 ⟨rfl, W9, L9⟩; replace W9 := hideit W9; replace L9 := hideit L9)
  have D9 := hideit (RowAt.belowB D8.out hbd.out L9.out)
  have hE10 := hideit (Below.trans hE9.out (Below.mono L9.out hwd.out))
  clear k G8 D8 W8 L9 hE9
  have k := hideit (wbytes_ok d2 512 480 32 _ D false _ w9 W9.out (by decide) (by decide) (RowAt.bv D9.out 32 (by decide)))
  go_upto_region 13 with (go_at_call 24; refine k.out.mono ?_; rintro e w10 ⟨rfl, W10, L10⟩; replace W10 := hideit W10; replace L10 := hideit L10)
  have hE11 := hideit (Below.trans hE10.out (Below.mono L10.out hwd.out))
  clear k D9 W9 L10 hE10
  have k := hideit (wdone_ok d2 512 512 _ w10 W10.out (by decide) (by decide))
  go_wp2_with (go_at_call 22; refine k.out.mono ?_; rintro e w11 ⟨g2, rfl, hg, G2, hE12⟩; replace hg := hideit hg; replace G2 := hideit G2; replace hE12 := hideit hE12)
  go_ret2
  refine ⟨g2, rfl, Nat.le_trans (Below.size hE11.out) hg.out, G2.out.congr fun j hj => ?_, Ext.trans hE11.out hE12.out⟩
  unfold yv padF hbF catF
  rw [if_pos hj, ← hD.out]
  by_cases c1 : j < 480
  · rw [if_pos c1, if_pos c1, if_neg (by omega), Nat.sub_zero]
  · rw [if_neg c1, if_neg c1]
end Go.Proofs.YtenlokmoijeehaaDoor
