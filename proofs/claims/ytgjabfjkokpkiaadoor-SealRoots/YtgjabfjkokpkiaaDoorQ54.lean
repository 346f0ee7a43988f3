/-
  The document's padded key, its tag. The document's tag, of any message under any key.
-/
import Derived.Test.YtgjabfjkokpkiaaDoorQ1
import Derived.Test.YtgjabfjkokpkiaaDoorQ17
import Derived.Test.YtgjabfjkokpkiaaDoorQ13
import Derived.Test.YtgjabfjkokpkiaaDoorQ18
import Derived.Test.YtgjabfjkokpkiaaDoorQ53
import Derived.Test.YtgjabfjkokpkiaaDoorQ20
import Derived.Test.YtgjabfjkokpkiaaDoorQ21
namespace Go.Proofs.YtgjabfjkokpkiaaDoor
open Go.RowKit Go.BigFrame
theorem BV.setCell {v : Value} {l : Nat} {b : Nat → BitVec 8} {w : World} (h : BV v l b w) (p : Addr) (u : Value) (hp : ∀ a n c, v = .slice (some a) n c → a.block ≠ p.block) : BV v l b (w.setCell p u) := by
  rcases h with h | ⟨a, cap, h1, h2, h3⟩
  · exact .inl h
  · refine .inr ⟨a, cap, h1, h2, fun j hj => ?_, by simpa [World.setCell] using h3.2⟩
    have hb := Below.heap_setCell w p u a.block (hp a l cap h1)
    exact (World.cell?_of_block (a := a.add j) (by rw [add_block]; exact hb)).trans (h3.1 j hj)
set_option maxRecDepth 20000 in
set_option maxHeartbeats 2000000 in
theorem pad_any (v : Value) (l : Nat) (key : Nat → BitVec 8) (x : BitVec 8) (w : World) (h : BV v l key w) (hl : l ≤ 140737488351232) :
    Calls Tryd.prog 53 #[v, .int .u8 (x.toNat : Int)] w fun e w' => ∃ b, w.heap.size ≤ b ∧ b < w'.heap.size ∧ e = .returned (.slice (some ⟨b, 0, none⟩) 64 64) ∧ OwnB w.heap.size 5 (.slice (some ⟨b, 0, none⟩) 64 64) 64 (yv (maskF (readyF l key) x)) w' ∧ Ext w w' := by
  have hz2 := zero24
  have c23 := cutR23
  obtain ⟨oa, cp, rfl⟩ := h.form
  obtain ⟨M, hMM⟩ : ∃ M, M = maskF (readyF l key) x := ⟨_, rfl⟩
  rw [← hMM]
  by_cases h64 : 64 < l
  · have i64 : (64 : Int) < (l : Int) := by omega
    obtain ⟨kf, hkf⟩ : ∃ kf, kf = shaF key l := ⟨_, rfl⟩
    have hM : Hid (∀ j, M j = if j < 32 then xE8 (kf j) x else xE8 0#8 x) := fun j => by
      rw [hMM, hkf]
      unfold maskF readyF
      rw [if_pos h64]
      split <;> rfl
    have hs := rsumV _ l key w h (by omega)
    rw [← hkf] at hs
    replace hs := hideit hs
    clear h hMM hkf
    go_enter Tryd.func53, Tryd.ntmps53
    go_upto_region 2 with (fail)
    refine wp_region_lit ?_
    refine wpList_run rfl (.slice oa l cp) (by simp [go_sem]) ?_
    simp only [zp0, zp1, zp2, zp3]
    refine wpList_call rfl (by simp [go_sem]) (hs.out.mono ?_)
    rintro e w3 ⟨rfl, hw3⟩
    refine ⟨_, rfl, ?_⟩
    simp only [zp0, zp1, zp2, zp3]
    have HN := hideit (RowAt.new w3 32 (yv fun _ => 0#8) 31)
    have hE4 : Ext w3 (w3.alloc (.cells (row 32 (yv fun _ => 0#8)).toArray 31)) := (Below.refl _ _).alloc (Nat.le_refl _) _
    refine wpList_to rfl (.pointer (some ⟨w3.heap.size, 0, none⟩)) (w3.alloc (.cells (row 32 (yv fun _ => 0#8)).toArray 31)) (by simp [go_sem, hz2]) ?_
    simp only [zp0, zp1, zp2, zp3]
    refine wpList_store_mid rfl 31 (.tmp 5) (.tmp 12) rfl _ 0 (row 32 (yv kf)).toArray rfl rfl (by rw [row_size]; exact HN.out.there) (by rw [row_size]; exact info24) (row_one fun _ _ => rfl) ?_
    have KE : Ext w ((w3.alloc (.cells (row 32 (yv fun _ => 0#8)).toArray 31)).setCells w3.heap.size 0 (row 32 (yv kf))) := below_setCells w3.heap.size (Below.size hw3) _ _ _ (Ext.trans hw3 hE4)
    have HK : BV (.slice (some ⟨w3.heap.size, 0, none⟩) 32 32) 32 kf ((w3.alloc (.cells (row 32 (yv fun _ => 0#8)).toArray 31)).setCells w3.heap.size 0 (row 32 (yv kf))) :=
      .inr ⟨_, 32, rfl, Nat.le_refl _, (HN.out.cells (g' := yv kf)).lie 32 (Nat.le_refl _)⟩
    replace HK := hideit HK
    generalize (w3.alloc (.cells (row 32 (yv fun _ => 0#8)).toArray 31)).setCells w3.heap.size 0 (row 32 (yv kf)) = KW at *
    generalize w3.heap.size = b3 at *
    clear HN hE4 hw3 hs
    simp only [Act.put]
    go_upto_region 4 with (fail)
    generalize (some (⟨b3, 0, none⟩ : Addr)) = koa at HK ⊢
    refine wp_region_lit ?_
    refine wpList_made KW Tryd.underlying22 (by kernel_rfl) rfl (.const (.int .i64 64)) (.const (.int .i64 64)) rfl 64 rfl rfl (by omega) ?_
    intro w6 hO6 hE6
    have HO6 := hideit hO6
    have HE6 := hideit (Ext.trans KE hE6)
    have HK6 := hideit (HK.out.ext hE6)
    have hkb : Hid (∀ a n c, (Value.slice koa 32 32) = .slice (some a) n c → a.block < KW.heap.size) := fun a n c he => by
      rcases HK.out with ⟨h, _⟩ | ⟨a', cap', h, _, h3⟩
      · rw [h] at he; cases he
      · rw [h] at he
        injection he with e1 e2 e3
        injection e1 with e1
        subst e1
        exact h3.2
    clear hO6 hE6 HK
    obtain ⟨b, hb⟩ : ∃ b, b = KW.heap.size := ⟨_, rfl⟩
    rw [← hb] at HO6 hkb ⊢
    have hwk : w.heap.size ≤ b := by rw [hb]; exact Below.size KE
    replace hb := hideit hb
    simp only [zp0, zp1, zp2, zp3]
    refine wpList_run rfl (.slice (some ⟨b, 0, none⟩) 64 64) (by simp [go_sem]) ?_
    simp only [zp0, zp1, zp2, zp3]
    go_wp2
    go_loopw [7] (fun iv wr => ∃ i : Nat, i ≤ 64 ∧ iv = .int .i64 (i : Int) ∧ OwnB b 5 (.slice (some ⟨b, 0, none⟩) 64 64) 64 (yv fun j => if j < i then M j else 0#8) wr ∧ BV (.slice koa 32 32) 32 kf wr ∧ Ext w wr) (fun iv _ => 64 - (intOf iv).toNat)
    case atStart => exact ⟨0, by omega, rfl, HO6.out.congr fun j _ => by simp [yv], HK6.out, HE6.out⟩
    case round =>
      clear HO6 HK6 HE6
      obtain ⟨i, hi, rfl, hO, hK, hE⟩ := hrel
      by_cases hlt : i < 64
      · have i0 : (0 : Int) ≤ (i : Int) := by omega
        have i1 : (i : Int) < 64 := by omega
        have HO := hideit hO
        have HK := hideit hK
        have HE := hideit hE
        clear hO hK hE
        obtain ⟨g, cp9, hv, hg1, hg2, hg3, hRow⟩ := HO.out.lies (by omega)
        injection hv with e1 e2 e3
        injection e1 with e1
        injection e1 with e1
        subst e1
        have ec := hRow.1 i hlt
        have gc := hRow.2.1 i hlt
        simp only [yv, if_neg (Nat.lt_irrefl i)] at ec
        clear hRow hg1 hg2 hg3 e2 e3
        by_cases hk : i < 32
        · have k1 : (i : Int) < 32 := by omega
          obtain ⟨a, rfl, hcell⟩ : ∃ a, koa = some a ∧ wr.cell? (a.add i) = some (yv kf i) := by
            rcases HK.out with ⟨h, h0⟩ | ⟨a, cap', h, _, h3⟩
            · omega
            · injection h with e1 e2 e3
              exact ⟨a, e1, h3.1 i hk⟩
          have hab : a.block ≠ b := by have := hkb.out a 32 32 rfl; omega
          simp only [yv] at hcell
          have hx := xor8' (kf i) x
          have hMi : xE8 (kf i) x = M i := by rw [hM.out i, if_pos hk]
          rw [hMi] at hx
          go_wp2
          refine ⟨⟨i + 1, by omega, by go_num, ?_, ?_, ?_⟩, by simp [intOf]; omega⟩
          · refine ((HO.out.set (b := b) rfl i hlt (.int .u8 ((kf i).toNat : Int))).set (b := b) rfl i hlt (yv M i)).congr fun j _ => ?_
            simp only [yv]
            by_cases e : j = i
            · subst e
              simp only [if_true]
              rw [if_pos (by omega)]
            · simp only [if_neg e]
              by_cases h : j < i
              · rw [if_pos h, if_pos (by omega)]
              · rw [if_neg h, if_neg (by omega)]
          · exact (by first | exact (HK.out.setCell _ _ (fun a n c he => Nat.ne_of_lt (hkb.out a n c he))).setCell _ _ (fun a n c he => Nat.ne_of_lt (hkb.out a n c he)) | exact HK.out.setCell _ _ (fun a n c he => Nat.ne_of_lt (hkb.out a n c he)))
          · first | exact (HE.out.setCell hwk _).setCell hwk _ | exact HE.out.setCell hwk _
        · have k1 : ¬ (i : Int) < 32 := by omega
          have hx := xor8' 0#8 x
          have hMi : xE8 0#8 x = M i := by rw [hM.out i, if_neg hk]
          rw [hMi] at hx
          have hx0 : bits .xor .u8 0 (x.toNat : Int) = ((M i).toNat : Int) := hx
          go_wp2
          refine ⟨⟨i + 1, by omega, by go_num, ?_, ?_, ?_⟩, by simp [intOf]; omega⟩
          · refine (HO.out.set (b := b) rfl i hlt (yv M i)).congr fun j _ => ?_
            simp only [yv]
            by_cases e : j = i
            · subst e
              simp only [if_true]
              rw [if_pos (by omega)]
            · simp only [if_neg e]
              by_cases h : j < i
              · rw [if_pos h, if_pos (by omega)]
              · rw [if_neg h, if_neg (by omega)]
          · exact (by first | exact (HK.out.setCell _ _ (fun a n c he => Nat.ne_of_lt (hkb.out a n c he))).setCell _ _ (fun a n c he => Nat.ne_of_lt (hkb.out a n c he)) | exact HK.out.setCell _ _ (fun a n c he => Nat.ne_of_lt (hkb.out a n c he)))
          · first | exact (HE.out.setCell hwk _).setCell hwk _ | exact HE.out.setCell hwk _
      · obtain rfl : i = 64 := by omega
        have HO := hideit (hO.congr (g' := yv M) fun j hj => by simp only [yv]; rw [if_pos hj])
        have HE := hideit hE
        clear hO hK hE
        go_wp2
        go_ret
        exact ⟨b, hwk, (HO.out.lt b rfl).2, rfl, HO.out.down hwk, HE.out⟩
  · have i64 : ¬ (64 : Int) < (l : Int) := by omega
    obtain ⟨kf, hkf⟩ : ∃ kf, kf = key := ⟨_, rfl⟩
    have hM : Hid (∀ j, M j = if j < l then xE8 (kf j) x else xE8 0#8 x) := fun j => by
      rw [hMM, hkf]
      unfold maskF readyF
      rw [if_neg h64]
      split <;> rfl
    have HK := hideit h
    rw [← hkf] at HK
    clear h hMM hkf
    have KE := Ext.refl w
    go_enter Tryd.func53, Tryd.ntmps53
    go_upto_region 4 with (fail)
    refine wp_region_lit ?_
    refine wpList_made w Tryd.underlying22 (by kernel_rfl) rfl (.const (.int .i64 64)) (.const (.int .i64 64)) rfl 64 rfl rfl (by omega) ?_
    intro w6 hO6 hE6
    have HO6 := hideit hO6
    have HE6 := hideit (Ext.trans KE hE6)
    have HK6 := hideit (HK.out.ext hE6)
    have hkb : Hid (∀ a n c, (Value.slice oa l cp) = .slice (some a) n c → a.block < w.heap.size) := fun a n c he => by
      rcases HK.out with ⟨h, _⟩ | ⟨a', cap', h, _, h3⟩
      · rw [h] at he; cases he
      · rw [h] at he
        injection he with e1 e2 e3
        injection e1 with e1
        subst e1
        exact h3.2
    clear hO6 hE6 HK
    obtain ⟨b, hb⟩ : ∃ b, b = w.heap.size := ⟨_, rfl⟩
    rw [← hb] at HO6 hkb ⊢
    have hwk : w.heap.size ≤ b := by rw [hb]; exact Below.size KE
    replace hb := hideit hb
    simp only [zp0, zp1, zp2, zp3]
    refine wpList_run rfl (.slice (some ⟨b, 0, none⟩) 64 64) (by simp [go_sem]) ?_
    simp only [zp0, zp1, zp2, zp3]
    go_wp2
    go_loopw [7] (fun iv wr => ∃ i : Nat, i ≤ 64 ∧ iv = .int .i64 (i : Int) ∧ OwnB b 5 (.slice (some ⟨b, 0, none⟩) 64 64) 64 (yv fun j => if j < i then M j else 0#8) wr ∧ BV (.slice oa l cp) l kf wr ∧ Ext w wr) (fun iv _ => 64 - (intOf iv).toNat)
    case atStart => exact ⟨0, by omega, rfl, HO6.out.congr fun j _ => by simp [yv], HK6.out, HE6.out⟩
    case round =>
      clear HO6 HK6 HE6
      obtain ⟨i, hi, rfl, hO, hK, hE⟩ := hrel
      by_cases hlt : i < 64
      · have i0 : (0 : Int) ≤ (i : Int) := by omega
        have i1 : (i : Int) < 64 := by omega
        have HO := hideit hO
        have HK := hideit hK
        have HE := hideit hE
        clear hO hK hE
        obtain ⟨g, cp9, hv, hg1, hg2, hg3, hRow⟩ := HO.out.lies (by omega)
        injection hv with e1 e2 e3
        injection e1 with e1
        injection e1 with e1
        subst e1
        have ec := hRow.1 i hlt
        have gc := hRow.2.1 i hlt
        simp only [yv, if_neg (Nat.lt_irrefl i)] at ec
        clear hRow hg1 hg2 hg3 e2 e3
        by_cases hk : i < l
        · have k1 : (i : Int) < (l : Int) := by omega
          obtain ⟨a, rfl, hcell⟩ : ∃ a, oa = some a ∧ wr.cell? (a.add i) = some (yv kf i) := by
            rcases HK.out with ⟨h, h0⟩ | ⟨a, cap', h, _, h3⟩
            · omega
            · injection h with e1 e2 e3
              exact ⟨a, e1, h3.1 i hk⟩
          have hab : a.block ≠ b := by have := hkb.out a l cp rfl; omega
          simp only [yv] at hcell
          have hx := xor8' (kf i) x
          have hMi : xE8 (kf i) x = M i := by rw [hM.out i, if_pos hk]
          rw [hMi] at hx
          go_wp2
          refine ⟨⟨i + 1, by omega, by go_num, ?_, ?_, ?_⟩, by simp [intOf]; omega⟩
          · refine ((HO.out.set (b := b) rfl i hlt (.int .u8 ((kf i).toNat : Int))).set (b := b) rfl i hlt (yv M i)).congr fun j _ => ?_
            simp only [yv]
            by_cases e : j = i
            · subst e
              simp only [if_true]
              rw [if_pos (by omega)]
            · simp only [if_neg e]
              by_cases h : j < i
              · rw [if_pos h, if_pos (by omega)]
              · rw [if_neg h, if_neg (by omega)]
          · exact (by first | exact (HK.out.setCell _ _ (fun a n c he => Nat.ne_of_lt (hkb.out a n c he))).setCell _ _ (fun a n c he => Nat.ne_of_lt (hkb.out a n c he)) | exact HK.out.setCell _ _ (fun a n c he => Nat.ne_of_lt (hkb.out a n c he)))
          · first | exact (HE.out.setCell hwk _).setCell hwk _ | exact HE.out.setCell hwk _
        · have k1 : ¬ (i : Int) < (l : Int) := by omega
          have hx := xor8' 0#8 x
          have hMi : xE8 0#8 x = M i := by rw [hM.out i, if_neg hk]
          rw [hMi] at hx
          have hx0 : bits .xor .u8 0 (x.toNat : Int) = ((M i).toNat : Int) := hx
          go_wp2
          refine ⟨⟨i + 1, by omega, by go_num, ?_, ?_, ?_⟩, by simp [intOf]; omega⟩
          · refine (HO.out.set (b := b) rfl i hlt (yv M i)).congr fun j _ => ?_
            simp only [yv]
            by_cases e : j = i
            · subst e
              simp only [if_true]
              rw [if_pos (by omega)]
            · simp only [if_neg e]
              by_cases h : j < i
              · rw [if_pos h, if_pos (by omega)]
              · rw [if_neg h, if_neg (by omega)]
          · exact (by first | exact (HK.out.setCell _ _ (fun a n c he => Nat.ne_of_lt (hkb.out a n c he))).setCell _ _ (fun a n c he => Nat.ne_of_lt (hkb.out a n c he)) | exact HK.out.setCell _ _ (fun a n c he => Nat.ne_of_lt (hkb.out a n c he)))
          · first | exact (HE.out.setCell hwk _).setCell hwk _ | exact HE.out.setCell hwk _
      · obtain rfl : i = 64 := by omega
        have HO := hideit (hO.congr (g' := yv M) fun j hj => by simp only [yv]; rw [if_pos hj])
        have HE := hideit hE
        clear hO hK hE
        go_wp2
        go_ret
        exact ⟨b, hwk, (HO.out.lt b rfl).2, rfl, HO.out.down hwk, HE.out⟩
end Go.Proofs.YtgjabfjkokpkiaaDoor
namespace Go.Proofs.YtgjabfjkokpkiaaDoor
open Go.RowKit Go.BigFrame
set_option maxRecDepth 20000 in
set_option maxHeartbeats 4000000 in
theorem grown_ext {w X Y : World} {row : Option Nat} (h : Ext w X) (hg : X.grownBy Y row) (hr : ∀ k, row = some k → w.heap.size ≤ k) : Ext w Y := Below.trans h (below_grown (Below.size h) hg hr)
theorem rTag_any (v mv : Value) (l n : Nat) (key m : Nat → BitVec 8) (w : World) (h : BV v l key w) (hm : BV mv n m w) (hl : l ≤ 140737488351232) (hn : n ≤ 140737488354000) :
    Calls Tryd.prog 34 #[v, mv] w fun e w' => e = .returned (.agg (row 32 (yv (tagF l key m n))).toArray) ∧ Below w.heap.size w w' := by
  have hz := zero24
  have c23 := cutR23
  obtain ⟨o0, c0, rfl⟩ := h.form
  obtain ⟨o1, c1, rfl⟩ := hm.form
  obtain ⟨R, hR⟩ : ∃ R, R = tagF l key m n := ⟨_, rfl⟩
  rw [← hR]
  replace hR := hideit hR
  obtain ⟨D, hDD⟩ : ∃ D, D = shaF (catF (maskF (readyF l key) 54#8) 64 m) (64 + n) := ⟨_, rfl⟩
  replace hDD := hideit hDD
  have HR0 := hideit (RowAt.new w 32 (yv fun _ => 0#8) 31)
  have HE0 : Ext w (w.alloc (.cells (row 32 (yv fun _ => 0#8)).toArray 31)) := (Below.refl _ _).alloc (Nat.le_refl _) _
  have hp := hideit (pad_any _ l key 54#8 _ (h.ext HE0) hl)
  have hB := hideit h
  have hMm := hideit hm
  replace HE0 := hideit HE0
  clear h hm
  go_enter Tryd.func34, Tryd.ntmps34
  go_upto_region 1 with (fail)
  generalize w.alloc (.cells (row 32 (yv fun _ => 0#8)).toArray 31) = w1 at *
  refine wp_region_lit ?_
  refine wpList_run rfl (.slice o0 l c0) (by simp [go_sem]) ?_
  simp only [zp0, zp1, zp2, zp3]
  refine wpList_call rfl (by simp [go_sem]) (hp.out.mono ?_)
  rintro e w2 ⟨b, hb1, hb2, rfl, hO2, hE2⟩
  refine ⟨_, rfl, ?_⟩
  simp only [zp0, zp1, zp2, zp3]
  refine wpList_run rfl (.slice o1 n c1) (by simp [go_sem]) ?_
  simp only [zp0, zp1, zp2, zp3]
  have HE2 := hideit (Ext.trans HE0.out hE2)
  have HR2 := hideit (HR0.out.carry hE2)
  have HM2 := hideit (hMm.out.ext HE2.out)
  have hb3 : w.heap.size < b := Nat.lt_of_lt_of_le HR0.out.2.2 hb1
  refine wpList_growV (v := .slice (some ⟨b, 0, none⟩) 64 64) (n := 64) (base := w1.heap.size) (g := yv (maskF (readyF l key) 54#8)) elem22 rfl (.tmp 7) (.tmp 8) rfl rfl hO2 _ n m (yv (catF (maskF (readyF l key) 54#8) 64 m)) rfl HM2.out (fun j hj => by simp only [yv]; unfold catF; rw [if_pos hj]) (fun j hj => by simp only [yv]; unfold catF; rw [if_neg (by omega), Nat.add_sub_cancel_left]) (by omega) (Below.size hE2) ?_
  intro v3 w3 hO3 hg3
  have HE3 := hideit (grown_ext HE2.out hg3 (fun k hk => by have := (hO2.lt k hk).1; have := Below.size HE0.out; omega))
  have HR3 := hideit (HR2.out.grown hg3 (fun e => Nat.ne_of_lt (by omega : w.heap.size < b) (by simpa [Value.ownBlock] using e)))
  have HV3 := hideit (OwnB.bv hO3)
  obtain ⟨o3, c3, rfl⟩ := HV3.out.form
  have hs3 := rsumV _ (64 + n) _ w3 HV3.out (by omega)
  rw [← hDD.out] at hs3
  replace hs3 := hideit hs3
  clear hO3 hg3 hO2 hE2 HE2 HR2 HM2 hp HR0 HE0 HV3 hb1 hb2 hb3
  simp only [zp0, zp1, zp2, zp3]
  refine wpList_call rfl (by simp [go_sem]) (hs3.out.mono ?_)
  rintro e w4 ⟨rfl, hw4⟩
  refine ⟨_, rfl, ?_⟩
  simp only [zp0, zp1, zp2, zp3]
  have HR4 := hideit (HR3.out.carry hw4)
  have HE4 := hideit (Ext.trans HE3.out hw4)
  clear hs3 hw4 HR3 HE3
  have HN := hideit (RowAt.new w4 32 (yv fun _ => 0#8) 31)
  have hE5 : Ext w4 (w4.alloc (.cells (row 32 (yv fun _ => 0#8)).toArray 31)) := (Below.refl _ _).alloc (Nat.le_refl _) _
  have hlt4 : w.heap.size < w4.heap.size := HR4.out.2.2
  refine wpList_to rfl (.pointer (some ⟨w4.heap.size, 0, none⟩)) (w4.alloc (.cells (row 32 (yv fun _ => 0#8)).toArray 31)) (by simp [go_sem, hz]) ?_
  simp only [zp0, zp1, zp2, zp3]
  refine wpList_store_mid rfl 31 (.tmp 5) (.tmp 10) rfl _ 0 (row 32 (yv D)).toArray rfl rfl (by rw [row_size]; exact HN.out.there) (by rw [row_size]; exact info24) (row_one fun _ _ => rfl) ?_
  have HD5 := hideit (HN.out.cells (g' := yv D))
  have HR5 := hideit ((HR4.out.carry hE5).cellsOther (c := w4.heap.size) (by omega) (row 32 (yv D)) 0)
  have HE5 := hideit (below_setCells w4.heap.size (by omega) (row 32 (yv D)) 0 _ (Ext.trans HE4.out hE5))
  generalize (w4.alloc (.cells (row 32 (yv fun _ => 0#8)).toArray 31)).setCells w4.heap.size 0 (row 32 (yv D)) = w5 at *
  generalize w4.heap.size = b5 at *
  clear HN hE5 HR4 HE4
  simp only [Act.put]
  go_upto_region 2 with (fail)
  refine wp_region_any (by kernel_rfl) ?_
  refine wpAny_pures (by kernel_rfl) (fun _ _ _ _ _ h => h) [0] [_] _ _ 5 rfl (by decide +kernel) ?_
  simp only [List.getElem_toArray, List.getElem_cons_zero]
  refine wpPure_one (.slice o0 l c0) rfl (fun X => by simp [go_sem]) ?_
  simp only [zp0, zp1, zp2, zp3]
  refine wpPure_nil ?_
  refine wpAny_seg _ 5 0 (fun _ => ⟨fun b => .slice (some ⟨b, 0, none⟩) 64 64, fun b X => OwnB w.heap.size 5 (.slice (some ⟨b, 0, none⟩) 64 64) 64 (yv (maskF (readyF l key) 92#8)) X⟩) (fun _ => undef) (fun _ _ _ _ hh hk => OwnB.ext hh hk) [2] [1] [] [3, 4, 5] [_] [_, _, _] (by decide +kernel) (by decide +kernel) (by decide +kernel) (by decide +kernel) (by decide +kernel) (by decide) rfl rfl (by decide +kernel) (by decide +kernel) (by decide +kernel) (by decide +kernel) (by decide +kernel) (by decide +kernel) (by decide +kernel) (by decide +kernel) (by decide +kernel) (by decide +kernel) (by decide +kernel) ?_
  simp only [List.getElem_toArray, List.getElem_cons_zero, List.getElem_cons_succ]
  refine ⟨.slice (some ⟨b5, 0, none⟩) 32 32, .inl ⟨rfl, fun X hX => by simp [go_sem, strongUpon, c23]⟩, ?_⟩
  simp only [zp0, zp1, zp2, zp3]
  refine wpStrong_nil ?_
  refine wpN_one _ rfl (GenY.call rfl (fun X => by simp [go_sem]) (fun X hX => (pad_any _ l key 92#8 X (hB.out.ext (Ext.trans (Ext.trans HE5.out (Below.refl _ _).drew) hX)) hl).mono ?_)) ?_
  · rintro e w' ⟨b, k1, k2, rfl, k3, k4⟩
    exact ⟨b, k1, k2, rfl, k3.down (Below.size (Ext.trans (Ext.trans HE5.out (Below.refl _ _).drew) hX)), k4⟩
  intro b hb1 _
  simp only [zp4, zp5, zp6, zp0, zp1, zp2, zp3]
  refine wpN_nil ?_
  refine wpT_nil ?_
  intro w6 hw6 hH
  have HO6 := hideit (hH (b, 1) (by simp)).1
  have hw5 : Ext w5 w6 := Ext.trans (Below.refl _ _).drew hw6
  have HE6 := hideit (Ext.trans HE5.out hw5)
  have HD6 := hideit (HD5.out.carry hw5)
  have HR6 := hideit (HR5.out.carry hw5)
  have hsz6 : w.heap.size ≤ w6.heap.size := Below.size HE6.out
  have hb1' : b5 < b := Nat.lt_of_lt_of_le HD5.out.2.2 hb1
  have hb2' : w.heap.size < b := Nat.lt_of_lt_of_le HR5.out.2.2 hb1
  clear hH hw6 hw5 HE5 HD5 HR5 hb1
  refine wpList_growV (v := .slice (some ⟨b, 0, none⟩) 64 64) (n := 64) (base := w.heap.size) (g := yv (maskF (readyF l key) 92#8)) elem22 rfl (.tmp 12) (.tmp 13) rfl rfl HO6.out _ 32 D (yv (catF (maskF (readyF l key) 92#8) 64 D)) rfl (.inr ⟨_, 32, rfl, Nat.le_refl _, HD6.out.lie 32 (Nat.le_refl _)⟩) (fun j hj => by simp only [yv]; unfold catF; rw [if_pos hj]) (fun j hj => by simp only [yv]; unfold catF; rw [if_neg (by omega), Nat.add_sub_cancel_left]) (by omega) hsz6 ?_
  intro v7 w7 hO7 hg7
  have hlt6 := HO6.out.lt
  have HE7 := hideit (grown_ext HE6.out hg7 (fun k hk => (hlt6 k hk).1))
  have HR7 := hideit (HR6.out.grown hg7 (fun e => Nat.ne_of_lt (by omega : w.heap.size < b) (by simpa [Value.ownBlock] using e)))
  have HV7 := hideit (OwnB.bv hO7)
  obtain ⟨o7, c7, rfl⟩ := HV7.out.form
  have hs7 := rsumV _ (64 + 32) _ w7 HV7.out (by omega)
  rw [show shaF (catF (maskF (readyF l key) 92#8) 64 D) (64 + 32) = R by rw [hR.out, hDD.out]; rfl] at hs7
  replace hs7 := hideit hs7
  clear hO7 hg7 hlt6 HO6 HD6 HR6 HE6 HV7
  simp only [zp0, zp1, zp2, zp3]
  refine wpList_call rfl (by simp [go_sem]) (hs7.out.mono ?_)
  rintro e w8 ⟨rfl, hw8⟩
  refine ⟨_, rfl, ?_⟩
  simp only [zp0, zp1, zp2, zp3]
  have HR8 := hideit (HR7.out.carry hw8)
  have HE8 := hideit (Ext.trans HE7.out hw8)
  clear hs7 hw8 HR7 HE7
  refine wpList_store_mid rfl 31 (.tmp 4) (.tmp 15) rfl _ 0 (row 32 (yv R)).toArray rfl rfl (by rw [row_size]; exact HR8.out.there) (by rw [row_size]; exact info24) (row_one fun _ _ => rfl) ?_
  refine wpList_go ?_
  refine wpAny_done (by decide +kernel) ?_
  simp only [Act.put]
  go_wp2
  exact bodyPost_ret (ret_row Tryd.results34 rfl (HR8.out.cells (g' := yv R)) Tryd.underlying31 rfl info24) rfl ⟨rfl, below_setCells _ (Nat.le_refl _) _ _ _ HE8.out⟩
end Go.Proofs.YtgjabfjkokpkiaaDoor
