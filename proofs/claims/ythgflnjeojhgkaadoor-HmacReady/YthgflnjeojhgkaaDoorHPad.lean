/-
  The document's padded key, its tag.
-/
import Derived.Test.YthgflnjeojhgkaaDoorHDrv
import Derived.Test.YthgflnjeojhgkaaDoorGrowV
import Derived.Test.YthgflnjeojhgkaaDoorOwnS
import Derived.Test.YthgflnjeojhgkaaDoorSeg
namespace Go.Proofs.YthgflnjeojhgkaaDoor
open Go.RowKit Go.BigFrame
theorem BV.setCell {v : Value} {l : Nat} {b : Nat → BitVec 8} {w : World} (h : BV v l b w) (p : Addr) (u : Value) (hp : ∀ a n c, v = .slice (some a) n c → a.block ≠ p.block) : BV v l b (w.setCell p u) := by
  rcases h with h | ⟨a, cap, h1, h2, h3⟩
  · exact .inl h
  · refine .inr ⟨a, cap, h1, h2, fun j hj => ?_, by simpa [World.setCell] using h3.2⟩
    have hb := Below.heap_setCell w p u a.block (hp a l cap h1)
    exact (World.cell?_of_block (a := a.add j) (by rw [add_block]; exact hb)).trans (h3.1 j hj)
set_option maxRecDepth 20000 in
set_option maxHeartbeats 2000000 in
theorem pad_any (v : Value) (l : Nat) (key : Nat → BitVec 8) (x : BitVec 8) (w : World) (h : BV v l key w) (hl : l ≤ 140737488351232) :
    Calls Tryd.prog 20 #[v, .int .u8 (x.toNat : Int)] w fun e w' => ∃ b, w.heap.size ≤ b ∧ b < w'.heap.size ∧ e = .returned (.slice (some ⟨b, 0, none⟩) 64 64) ∧ OwnB w.heap.size 5 (.slice (some ⟨b, 0, none⟩) 64 64) 64 (yv (maskF (readyF l key) x)) w' ∧ Ext w w' := by
  have hz2 := zero24
  have c23 := cutR23
  obtain ⟨oa, cp, rfl⟩ := h.form
  obtain ⟨M, hMM⟩ : ∃ M, M = maskF (readyF l key) x := ⟨_, rfl⟩
  rw [← hMM]
  by_cases h64 : 64 < l
  · have i64 : (64 : Int) < (l : Int) := by omega
    obtain ⟨kf, hkf⟩ : ∃ kf, kf = shaF key l := ⟨_, rfl⟩
    have hM : Hid (∀ j, M j = if j < 32 then xE8 (kf j) x else xE8 0#8 x) := fun j => by
      rw [hMM, hkf]
      unfold maskF readyF
      rw [if_pos h64]
      split <;> rfl
    have hs := rsumV _ l key w h (by omega)
    rw [← hkf] at hs
    replace hs := hideit hs
    clear h hMM hkf
    go_enter Tryd.func20, Tryd.ntmps20
    go_upto_region 2 with (fail)
    refine wp_region_lit ?_
    refine wpList_run rfl (.slice oa l cp) (by simp [go_sem]) ?_
    simp only [Act.put, List.setIfInBounds_toArray, List.set_cons_zero, List.set_cons_succ]
    refine wpList_call rfl (by simp [go_sem]) (hs.out.mono ?_)
    rintro e w3 ⟨rfl, hw3⟩
    refine ⟨_, rfl, ?_⟩
    simp only [Act.put, List.setIfInBounds_toArray, List.set_cons_zero, List.set_cons_succ]
    have HN := hideit (RowAt.new w3 32 (yv fun _ => 0#8) 23)
    have hE4 : Ext w3 (w3.alloc (.cells (row 32 (yv fun _ => 0#8)).toArray 23)) := (Below.refl _ _).alloc (Nat.le_refl _) _
    refine wpList_to rfl (.pointer (some ⟨w3.heap.size, 0, none⟩)) (w3.alloc (.cells (row 32 (yv fun _ => 0#8)).toArray 23)) (by simp [go_sem, hz2]) ?_
    simp only [Act.put, List.setIfInBounds_toArray, List.set_cons_zero, List.set_cons_succ]
    refine wpList_store_mid rfl 23 (.tmp 5) (.tmp 12) rfl _ 0 (row 32 (yv kf)).toArray rfl rfl (by rw [row_size]; exact HN.out.there) (by rw [row_size]; exact info24) (row_one fun _ _ => rfl) ?_
    have KE : Ext w ((w3.alloc (.cells (row 32 (yv fun _ => 0#8)).toArray 23)).setCells w3.heap.size 0 (row 32 (yv kf))) := below_setCells w3.heap.size (Below.size hw3) _ _ _ (Ext.trans hw3 hE4)
    have HK : BV (.slice (some ⟨w3.heap.size, 0, none⟩) 32 32) 32 kf ((w3.alloc (.cells (row 32 (yv fun _ => 0#8)).toArray 23)).setCells w3.heap.size 0 (row 32 (yv kf))) :=
      .inr ⟨_, 32, rfl, Nat.le_refl _, (HN.out.cells (g' := yv kf)).lie 32 (Nat.le_refl _)⟩
    replace HK := hideit HK
    generalize (w3.alloc (.cells (row 32 (yv fun _ => 0#8)).toArray 23)).setCells w3.heap.size 0 (row 32 (yv kf)) = KW at *
    generalize w3.heap.size = b3 at *
    clear HN hE4 hw3 hs
    simp only [Act.put]
    go_upto_region 4 with (fail)
    generalize (some (⟨b3, 0, none⟩ : Addr)) = koa at HK ⊢
    refine wp_region_lit ?_
    refine wpList_made KW Tryd.underlying22 (by kernel_rfl) rfl (.const (.int .i64 64)) (.const (.int .i64 64)) rfl 64 rfl rfl (by omega) ?_
    intro w6 hO6 hE6
    have HO6 := hideit hO6
    have HE6 := hideit (Ext.trans KE hE6)
    have HK6 := hideit (HK.out.ext hE6)
    have hkb : Hid (∀ a n c, (Value.slice koa 32 32) = .slice (some a) n c → a.block < KW.heap.size) := fun a n c he => by
      rcases HK.out with ⟨h, _⟩ | ⟨a', cap', h, _, h3⟩
      · rw [h] at he; cases he
      · rw [h] at he
        injection he with e1 e2 e3
        injection e1 with e1
        subst e1
        exact h3.2
    clear hO6 hE6 HK
    obtain ⟨b, hb⟩ : ∃ b, b = KW.heap.size := ⟨_, rfl⟩
    rw [← hb] at HO6 hkb ⊢
    have hwk : w.heap.size ≤ b := by rw [hb]; exact Below.size KE
    replace hb := hideit hb
    simp only [Act.put, List.setIfInBounds_toArray, List.set_cons_zero, List.set_cons_succ]
    refine wpList_run rfl (.slice (some ⟨b, 0, none⟩) 64 64) (by simp [go_sem]) ?_
    simp only [Act.put, List.setIfInBounds_toArray, List.set_cons_zero, List.set_cons_succ]
    go_wp2
    go_loopw [7] (fun iv wr => ∃ i : Nat, i ≤ 64 ∧ iv = .int .i64 (i : Int) ∧ OwnB b 5 (.slice (some ⟨b, 0, none⟩) 64 64) 64 (yv fun j => if j < i then M j else 0#8) wr ∧ BV (.slice koa 32 32) 32 kf wr ∧ Ext w wr) (fun iv _ => 64 - (intOf iv).toNat)
    case atStart => exact ⟨0, by omega, rfl, HO6.out.congr fun j _ => by simp [yv], HK6.out, HE6.out⟩
    case round =>
      clear HO6 HK6 HE6
      obtain ⟨i, hi, rfl, hO, hK, hE⟩ := hrel
      by_cases hlt : i < 64
      · have i0 : (0 : Int) ≤ (i : Int) := by omega
        have i1 : (i : Int) < 64 := by omega
        have HO := hideit hO
        have HK := hideit hK
        have HE := hideit hE
        clear hO hK hE
        obtain ⟨g, cp9, hv, hg1, hg2, hg3, hRow⟩ := HO.out.lies (by omega)
        injection hv with e1 e2 e3
        injection e1 with e1
        injection e1 with e1
        subst e1
        have ec := hRow.1 i hlt
        have gc := hRow.2.1 i hlt
        simp only [yv, if_neg (Nat.lt_irrefl i)] at ec
        clear hRow hg1 hg2 hg3 e2 e3
        by_cases hk : i < 32
        · have k1 : (i : Int) < 32 := by omega
          obtain ⟨a, rfl, hcell⟩ : ∃ a, koa = some a ∧ wr.cell? (a.add i) = some (yv kf i) := by
            rcases HK.out with ⟨h, h0⟩ | ⟨a, cap', h, _, h3⟩
            · omega
            · injection h with e1 e2 e3
              exact ⟨a, e1, h3.1 i hk⟩
          have hab : a.block ≠ b := by have := hkb.out a 32 32 rfl; omega
          simp only [yv] at hcell
          have hx := xor8' (kf i) x
          have hMi : xE8 (kf i) x = M i := by rw [hM.out i, if_pos hk]
          rw [hMi] at hx
          go_wp2
          refine ⟨⟨i + 1, by omega, by go_num, ?_, ?_, ?_⟩, by simp [intOf]; omega⟩
          · refine ((HO.out.set (b := b) rfl i hlt (.int .u8 ((kf i).toNat : Int))).set (b := b) rfl i hlt (yv M i)).congr fun j _ => ?_
            simp only [yv]
            by_cases e : j = i
            · subst e
              simp only [if_true]
              rw [if_pos (by omega)]
            · simp only [if_neg e]
              by_cases h : j < i
              · rw [if_pos h, if_pos (by omega)]
              · rw [if_neg h, if_neg (by omega)]
          · exact (by first | exact (HK.out.setCell _ _ (fun a n c he => Nat.ne_of_lt (hkb.out a n c he))).setCell _ _ (fun a n c he => Nat.ne_of_lt (hkb.out a n c he)) | exact HK.out.setCell _ _ (fun a n c he => Nat.ne_of_lt (hkb.out a n c he)))
          · first | exact (HE.out.setCell hwk _).setCell hwk _ | exact HE.out.setCell hwk _
        · have k1 : ¬ (i : Int) < 32 := by omega
          have hx := xor8' 0#8 x
          have hMi : xE8 0#8 x = M i := by rw [hM.out i, if_neg hk]
          rw [hMi] at hx
          have hx0 : bits .xor .u8 0 (x.toNat : Int) = ((M i).toNat : Int) := hx
          go_wp2
          refine ⟨⟨i + 1, by omega, by go_num, ?_, ?_, ?_⟩, by simp [intOf]; omega⟩
          · refine (HO.out.set (b := b) rfl i hlt (yv M i)).congr fun j _ => ?_
            simp only [yv]
            by_cases e : j = i
            · subst e
              simp only [if_true]
              rw [if_pos (by omega)]
            · simp only [if_neg e]
              by_cases h : j < i
              · rw [if_pos h, if_pos (by omega)]
              · rw [if_neg h, if_neg (by omega)]
          · exact (by first | exact (HK.out.setCell _ _ (fun a n c he => Nat.ne_of_lt (hkb.out a n c he))).setCell _ _ (fun a n c he => Nat.ne_of_lt (hkb.out a n c he)) | exact HK.out.setCell _ _ (fun a n c he => Nat.ne_of_lt (hkb.out a n c he)))
          · first | exact (HE.out.setCell hwk _).setCell hwk _ | exact HE.out.setCell hwk _
      · obtain rfl : i = 64 := by omega
        have HO := hideit (hO.congr (g' := yv M) fun j hj => by simp only [yv]; rw [if_pos hj])
        have HE := hideit hE
        clear hO hK hE
        go_wp2
        go_ret
        exact ⟨b, hwk, (HO.out.lt b rfl).2, rfl, HO.out.down hwk, HE.out⟩
  · have i64 : ¬ (64 : Int) < (l : Int) := by omega
    obtain ⟨kf, hkf⟩ : ∃ kf, kf = key := ⟨_, rfl⟩
    have hM : Hid (∀ j, M j = if j < l then xE8 (kf j) x else xE8 0#8 x) := fun j => by
      rw [hMM, hkf]
      unfold maskF readyF
      rw [if_neg h64]
      split <;> rfl
    have HK := hideit h
    rw [← hkf] at HK
    clear h hMM hkf
    have KE := Ext.refl w
    go_enter Tryd.func20, Tryd.ntmps20
    go_upto_region 4 with (fail)
    refine wp_region_lit ?_
    refine wpList_made w Tryd.underlying22 (by kernel_rfl) rfl (.const (.int .i64 64)) (.const (.int .i64 64)) rfl 64 rfl rfl (by omega) ?_
    intro w6 hO6 hE6
    have HO6 := hideit hO6
    have HE6 := hideit (Ext.trans KE hE6)
    have HK6 := hideit (HK.out.ext hE6)
    have hkb : Hid (∀ a n c, (Value.slice oa l cp) = .slice (some a) n c → a.block < w.heap.size) := fun a n c he => by
      rcases HK.out with ⟨h, _⟩ | ⟨a', cap', h, _, h3⟩
      · rw [h] at he; cases he
      · rw [h] at he
        injection he with e1 e2 e3
        injection e1 with e1
        subst e1
        exact h3.2
    clear hO6 hE6 HK
    obtain ⟨b, hb⟩ : ∃ b, b = w.heap.size := ⟨_, rfl⟩
    rw [← hb] at HO6 hkb ⊢
    have hwk : w.heap.size ≤ b := by rw [hb]; exact Below.size KE
    replace hb := hideit hb
    simp only [Act.put, List.setIfInBounds_toArray, List.set_cons_zero, List.set_cons_succ]
    refine wpList_run rfl (.slice (some ⟨b, 0, none⟩) 64 64) (by simp [go_sem]) ?_
    simp only [Act.put, List.setIfInBounds_toArray, List.set_cons_zero, List.set_cons_succ]
    go_wp2
    go_loopw [7] (fun iv wr => ∃ i : Nat, i ≤ 64 ∧ iv = .int .i64 (i : Int) ∧ OwnB b 5 (.slice (some ⟨b, 0, none⟩) 64 64) 64 (yv fun j => if j < i then M j else 0#8) wr ∧ BV (.slice oa l cp) l kf wr ∧ Ext w wr) (fun iv _ => 64 - (intOf iv).toNat)
    case atStart => exact ⟨0, by omega, rfl, HO6.out.congr fun j _ => by simp [yv], HK6.out, HE6.out⟩
    case round =>
      clear HO6 HK6 HE6
      obtain ⟨i, hi, rfl, hO, hK, hE⟩ := hrel
      by_cases hlt : i < 64
      · have i0 : (0 : Int) ≤ (i : Int) := by omega
        have i1 : (i : Int) < 64 := by omega
        have HO := hideit hO
        have HK := hideit hK
        have HE := hideit hE
        clear hO hK hE
        obtain ⟨g, cp9, hv, hg1, hg2, hg3, hRow⟩ := HO.out.lies (by omega)
        injection hv with e1 e2 e3
        injection e1 with e1
        injection e1 with e1
        subst e1
        have ec := hRow.1 i hlt
        have gc := hRow.2.1 i hlt
        simp only [yv, if_neg (Nat.lt_irrefl i)] at ec
        clear hRow hg1 hg2 hg3 e2 e3
        by_cases hk : i < l
        · have k1 : (i : Int) < (l : Int) := by omega
          obtain ⟨a, rfl, hcell⟩ : ∃ a, oa = some a ∧ wr.cell? (a.add i) = some (yv kf i) := by
            rcases HK.out with ⟨h, h0⟩ | ⟨a, cap', h, _, h3⟩
            · omega
            · injection h with e1 e2 e3
              exact ⟨a, e1, h3.1 i hk⟩
          have hab : a.block ≠ b := by have := hkb.out a l cp rfl; omega
          simp only [yv] at hcell
          have hx := xor8' (kf i) x
          have hMi : xE8 (kf i) x = M i := by rw [hM.out i, if_pos hk]
          rw [hMi] at hx
          go_wp2
          refine ⟨⟨i + 1, by omega, by go_num, ?_, ?_, ?_⟩, by simp [intOf]; omega⟩
          · refine ((HO.out.set (b := b) rfl i hlt (.int .u8 ((kf i).toNat : Int))).set (b := b) rfl i hlt (yv M i)).congr fun j _ => ?_
            simp only [yv]
            by_cases e : j = i
            · subst e
              simp only [if_true]
              rw [if_pos (by omega)]
            · simp only [if_neg e]
              by_cases h : j < i
              · rw [if_pos h, if_pos (by omega)]
              · rw [if_neg h, if_neg (by omega)]
          · exact (by first | exact (HK.out.setCell _ _ (fun a n c he => Nat.ne_of_lt (hkb.out a n c he))).setCell _ _ (fun a n c he => Nat.ne_of_lt (hkb.out a n c he)) | exact HK.out.setCell _ _ (fun a n c he => Nat.ne_of_lt (hkb.out a n c he)))
          · first | exact (HE.out.setCell hwk _).setCell hwk _ | exact HE.out.setCell hwk _
        · have k1 : ¬ (i : Int) < (l : Int) := by omega
          have hx := xor8' 0#8 x
          have hMi : xE8 0#8 x = M i := by rw [hM.out i, if_neg hk]
          rw [hMi] at hx
          have hx0 : bits .xor .u8 0 (x.toNat : Int) = ((M i).toNat : Int) := hx
          go_wp2
          refine ⟨⟨i + 1, by omega, by go_num, ?_, ?_, ?_⟩, by simp [intOf]; omega⟩
          · refine (HO.out.set (b := b) rfl i hlt (yv M i)).congr fun j _ => ?_
            simp only [yv]
            by_cases e : j = i
            · subst e
              simp only [if_true]
              rw [if_pos (by omega)]
            · simp only [if_neg e]
              by_cases h : j < i
              · rw [if_pos h, if_pos (by omega)]
              · rw [if_neg h, if_neg (by omega)]
          · exact (by first | exact (HK.out.setCell _ _ (fun a n c he => Nat.ne_of_lt (hkb.out a n c he))).setCell _ _ (fun a n c he => Nat.ne_of_lt (hkb.out a n c he)) | exact HK.out.setCell _ _ (fun a n c he => Nat.ne_of_lt (hkb.out a n c he)))
          · first | exact (HE.out.setCell hwk _).setCell hwk _ | exact HE.out.setCell hwk _
      · obtain rfl : i = 64 := by omega
        have HO := hideit (hO.congr (g' := yv M) fun j hj => by simp only [yv]; rw [if_pos hj])
        have HE := hideit hE
        clear hO hK hE
        go_wp2
        go_ret
        exact ⟨b, hwk, (HO.out.lt b rfl).2, rfl, HO.out.down hwk, HE.out⟩
end Go.Proofs.YthgflnjeojhgkaaDoor
