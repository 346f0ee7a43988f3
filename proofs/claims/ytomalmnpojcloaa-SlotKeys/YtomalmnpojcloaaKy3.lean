/-
  What the tag of keys is of, and the block of keys.
-/
import Derived.Test.YtomalmnpojcloaaKy2
namespace Go.Proofs.Ytomalmnpojcloaa
open Go.RowKit Go.BigFrame
def xB (xs : Nat → Int) (i : Nat) : BitVec 64 := BitVec.ofNat 64 (xs i).toNat
/-- the bytes that a tag of keys is of -/
def seF (n : Nat) (xs : Nat → Int) (fs : Nat → Nat → BitVec 8) (j : Nat) : BitVec 8 := if j < 4 then bT [75, 69, 89, 83] j else if j = 4 then BitVec.ofNat 8 n else manyB (xB xs) fs (j - 5)
theorem xB_nat {n : Nat} {xs : Nat → Int} (h : okE n xs) (i : Nat) (hi : i < n) : xs i = yN (xB xs) i ∧ (xB xs i).toNat ≤ 4294967295 := by
  obtain ⟨h1, h2, _⟩ := h.2 i hi
  unfold yN xB
  rw [BitVec.toNat_ofNat, Nat.mod_eq_of_lt (by omega)]
  omega
theorem EpAt.congr {a o n : Nat} {xs ys : Nat → Int} {fs : Nat → Nat → BitVec 8} {w : World} (h : EpAt a o n xs fs w) (e : ∀ i, i < n → xs i = ys i) : EpAt a o n ys fs w := fun i hi j hj => by rw [h i hi j hj, e i hi]
theorem cat_ke0 (g : Nat → BitVec 8) (n : Nat) (xs : Nat → Int) (fs : Nat → Nat → BitVec 8) (j : Nat) (hj : j < 4) : catF g 0 (bT [75, 69, 89, 83]) j = seF n xs fs j := by
  unfold catF seF
  rw [if_neg (by omega), if_pos hj, Nat.sub_zero]
theorem cat_ke1 (n : Nat) (xs : Nat → Int) (fs : Nat → Nat → BitVec 8) (y : BitVec 64) (hy : y.toNat = n) (j : Nat) (hj : j < 5) : catF (seF n xs fs) 4 (byB y) j = seF n xs fs j := by
  unfold catF
  by_cases h : j < 4
  · rw [if_pos h]
  · obtain rfl : j = 4 := by omega
    rw [if_neg (by omega)]
    unfold seF
    rw [if_neg (by omega), if_pos rfl]
    apply BitVec.eq_of_toNat_eq
    unfold byB
    rw [BitVec.toNat_setWidth, BitVec.toNat_ushiftRight, Nat.shiftRight_eq_div_pow, BitVec.toNat_ofNat, hy]
    simp
theorem cat_ke2 (n : Nat) (xs : Nat → Int) (fs : Nat → Nat → BitVec 8) (j : Nat) : catF (seF n xs fs) 5 (manyB (xB xs) fs) j = seF n xs fs j := by
  unfold catF
  by_cases h : j < 5
  · rw [if_pos h]
  · rw [if_neg h]
    unfold seF
    rw [if_neg (by omega), if_neg (by omega)]
theorem bool_of (p : Prop) : ∃ R : Bool, (R = true ↔ p) := by
  by_cases h : p
  · exact ⟨true, by simp [h]⟩
  · exact ⟨false, by simp [h]⟩
set_option maxRecDepth 20000 in
set_option maxHeartbeats 2000000 in
theorem seal_bad (v : Value) (n : Nat) (xs : Nat → Int) (fs : Nat → Nat → BitVec 8) (t : Nat → BitVec 8) (w : World) (h : EV v n xs fs w) (hw : inW n xs) (hb : ¬ okE n xs) :
    Calls Try.prog 15 #[.agg (row 33 (kyv v t)).toArray] w fun e w' => e = .returned (.tuple #[.slice none 0 0, .int .i64 1]) ∧ Ext w w' := by
  have H0 : Hid (RowAt w.heap.size 33 (kyv v t) (w.alloc (.cells (row 33 (kyv v t)).toArray 37))) := RowAt.new w 33 _ 37
  have hE0 : Hid (Ext w (w.alloc (.cells (row 33 (kyv v t)).toArray 37))) := (Below.refl _ _).alloc (Nat.le_refl _) _
  have E0 := hideit (h.ext hE0.out)
  clear h
  go_enter Try.func15, Try.ntmps15
  go_upto_region 1 with (fail)
  obtain ⟨w1, hw1⟩ : ∃ w1, w1 = w.alloc (.cells (row 33 (kyv v t)).toArray 37) := ⟨_, rfl⟩
  rw [← hw1] at H0 hE0 E0 ⊢
  clear hw1
  obtain ⟨c, hc⟩ : ∃ c, c = w.heap.size := ⟨_, rfl⟩
  rw [← hc] at H0 ⊢
  clear hc
  have e0 : w1.cell? ⟨c, 0, none⟩ = some v := H0.out.1 0 (by decide)
  have k := hideit (maybe_any v n xs fs w1 E0.out hw false ⟨fun hh => (by cases hh), fun hh => absurd hh hb⟩)
  go_wp2_with (go_at_call 29; refine k.out.mono ?_; rintro e w2 ⟨rfl, hE2⟩; replace hE2 := hideit hE2)
  go_ret2
  exact ⟨rfl, Ext.trans hE0.out hE2.out⟩
set_option maxRecDepth 20000 in
set_option maxHeartbeats 2000000 in
theorem seal_ok (v : Value) (n : Nat) (xs : Nat → Int) (fs : Nat → Nat → BitVec 8) (t : Nat → BitVec 8) (w : World) (h : EV v n xs fs w) (hw : inW n xs) (hb : okE n xs) :
    Calls Try.prog 15 #[.agg (row 33 (kyv v t)).toArray] w fun e w' => ∃ g, e = .returned (.tuple #[.slice (some ⟨g, 0, none⟩) (5 + 68 * n) (5 + 68 * n), .int .i64 0]) ∧ w.heap.size ≤ g ∧ RowAt g (5 + 68 * n) (yv (seF n xs fs)) w' ∧ Ext w w' := by
  have H0 : Hid (RowAt w.heap.size 33 (kyv v t) (w.alloc (.cells (row 33 (kyv v t)).toArray 37))) := RowAt.new w 33 _ 37
  have hE0 : Hid (Ext w (w.alloc (.cells (row 33 (kyv v t)).toArray 37))) := (Below.refl _ _).alloc (Nat.le_refl _) _
  have E0 := hideit (h.ext hE0.out)
  clear h
  go_enter Try.func15, Try.ntmps15
  go_upto_region 1 with (fail)
  obtain ⟨w1, hw1⟩ : ∃ w1, w1 = w.alloc (.cells (row 33 (kyv v t)).toArray 37) := ⟨_, rfl⟩
  rw [← hw1] at H0 hE0 E0 ⊢
  clear hw1
  obtain ⟨c, hc⟩ : ∃ c, c = w.heap.size := ⟨_, rfl⟩
  rw [← hc] at H0 ⊢
  clear hc
  have e0 : w1.cell? ⟨c, 0, none⟩ = some v := H0.out.1 0 (by decide)
  have k := hideit (maybe_any v n xs fs w1 E0.out hw true ⟨fun _ => hb, fun _ => rfl⟩)
  have n2 : n ≤ 2 := by have := hb.1; omega
  have hn1 : 0 < n := by have := hb.1; omega
  have n3 : (n : Int) ≤ 2 := by omega
  have n4 : (0 : Int) ≤ (n : Int) := by omega
  have hb' := hideit hb
  clear hw hb
  go_upto_region 3 with (go_at_call 29; refine k.out.mono ?_; rintro e w2 ⟨rfl, hE2⟩; replace hE2 := hideit hE2)
  have H2 := hideit (H0.out.carry hE2.out)
  have E2 := hideit (E0.out.ext hE2.out)
  have hE02 := hideit (Ext.trans hE0.out hE2.out)
  clear k H0 E0 hE0 hE2 e0
  rcases E2.out with ⟨_, hn0⟩ | ⟨a, o, cap, rfl, hcap, hEp⟩
  · omega
  have hEp' := hideit (hEp.congr fun i hi => (xB_nat hb'.out i hi).1)
  have haw := hideit (hEp.lt hn1)
  clear hEp E2
  have e0 : w2.cell? ⟨c, 0, none⟩ = some (.slice (some ⟨a, o, none⟩) n cap) := H2.out.1 0 (by decide)
  go_upto_region 4 with (go_at_call 20; rw [show (5 + 68 * (n : Int)) = ((5 + 68 * n : Nat) : Int) by omega]; refine (neww_any (5 + 68 * n) (fun _ => 0#8) _ (by omega)).mono ?_; rintro e w3 ⟨rfl, hW3, hE3⟩; replace hW3 := hideit hW3; replace hE3 := hideit hE3)
  have H3 := hideit (H2.out.carry hE3.out)
  have P3 := hideit (hEp'.out.ext hE3.out)
  have hE03 := hideit (Ext.trans hE02.out hE3.out)
  obtain ⟨d, hd⟩ : ∃ d, d = w2.heap.size := ⟨_, rfl⟩
  have hcd : Hid (c < d) := hideit (by rw [hd]; exact H2.out.2.2)
  have had : Hid (a < d) := hideit (by rw [hd]; exact haw.out)
  have hwd : Hid (w.heap.size ≤ d) := hideit (by rw [hd]; exact Below.size hE02.out)
  rw [← hd] at hW3 ⊢
  clear e0 hd H2 hE02 hE3 hEp' haw
  obtain ⟨x3, hcv3, hB3, hX3⟩ := constB w3 #[.int .u8 75, .int .u8 69, .int .u8 89, .int .u8 83] 4 (bT [75, 69, 89, 83]) (fun j hj => by
    rcases (by omega : j = 0 ∨ j = 1 ∨ j = 2 ∨ j = 3) with rfl | rfl | rfl | rfl <;> rfl)
  refine wp_region_lit ?_
  refine wpList_run rfl (.pointer (some ⟨d, 0, none⟩)) (by simp [go_sem]) ?_
  simp only [Act.put, List.setIfInBounds_toArray, List.set_cons_zero, List.set_cons_succ]
  refine wpList_to rfl (.slice (some ⟨w3.heap.size, 0, none⟩) 4 4) (w3.alloc (.cells #[.int .u8 75, .int .u8 69, .int .u8 89, .int .u8 83] 5)) (by simp [go_sem]) ?_
  simp only [Act.put, List.setIfInBounds_toArray, List.set_cons_zero, List.set_cons_succ]
  refine wpList_to rfl (.slice (some ⟨w3.heap.size, 0, none⟩) 4 4) (x3) (by simp [go_sem, hcv3]) ?_
  simp only [Act.put, List.setIfInBounds_toArray, List.set_cons_zero, List.set_cons_succ]
  have W4 := hideit (hW3.out.ext hX3)
  have H4 := hideit (H3.out.carry hX3)
  have P4 := hideit (P3.out.ext hX3)
  have hE04 := hideit (Ext.trans hE03.out hX3)
  replace hB3 := hideit hB3
  clear hW3 H3 P3 hE03 hX3 hcv3
  refine wpList_call rfl (by simp [go_sem]; exact ⟨rfl, rfl⟩) ?_
  refine (wbytes_ok d (5 + 68 * n) 0 4 _ (bT [75, 69, 89, 83]) false _ x3 W4.out (by omega) (by omega) hB3.out).mono ?_
  rintro e x4 ⟨rfl, hW5, hB5⟩
  refine ⟨_, rfl, ?_⟩
  simp only [Act.put, List.setIfInBounds_toArray, List.set_cons_zero, List.set_cons_succ]
  have W5 := hideit (hW5.congr (g := seF n xs fs) fun j hj => cat_ke0 _ n xs fs j (by omega))
  have H5 := hideit (RowAt.belowB H4.out hcd.out hB5)
  have P5 := hideit (P4.out.below had.out hB5)
  have hE05 := hideit (Below.trans hE04.out (Below.mono hB5 hwd.out))
  clear W4 H4 P4 hE04 hB3 hB5 hW5
  obtain ⟨y, hy⟩ : ∃ y : BitVec 64, y.toNat = n := ⟨BitVec.ofNat 64 n, by rw [BitVec.toNat_ofNat]; omega⟩
  have hu : IntKind.u64.wrap (n : Int) = (y.toNat : Int) := by rw [IntKind.wrap_u64, hy]; omega
  have hy' := hideit hy
  have hdv : y.toNat / 2 ^ (8 * 1) = 0 := Nat.div_eq_of_lt (by rw [hy]; exact Nat.lt_of_le_of_lt n2 (by decide))
  have k := hideit (wuint_ok d (5 + 68 * n) 4 1 (seF n xs fs) false y x4 W5.out (by omega) (by omega) (by decide) (by decide) hdv)
  clear hy hdv
  have e0 : x4.cell? ⟨c, 0, none⟩ = some (.slice (some ⟨a, o, none⟩) n cap) := H5.out.1 0 (by decide)
  go_upto_region 5 with (fail)
  refine wp_region_lit ?_
  refine wpList_run rfl (.pointer (some ⟨d, 0, none⟩)) (by simp [go_sem]) ?_
  simp only [Act.put, List.setIfInBounds_toArray, List.set_cons_zero, List.set_cons_succ]
  refine wpList_run rfl (.pointer (some ⟨c, 0, none⟩)) (by simp [go_sem]) ?_
  simp only [Act.put, List.setIfInBounds_toArray, List.set_cons_zero, List.set_cons_succ]
  refine wpList_run rfl (.slice (some ⟨a, o, none⟩) n cap) (by simp [go_sem, e0]) ?_
  simp only [Act.put, List.setIfInBounds_toArray, List.set_cons_zero, List.set_cons_succ]
  refine wpList_run rfl (.int .i64 (n : Int)) (by simp [go_sem]) ?_
  simp only [Act.put, List.setIfInBounds_toArray, List.set_cons_zero, List.set_cons_succ]
  refine wpList_run rfl (.int .u64 (y.toNat : Int)) (by simp [go_sem, hu]) ?_
  simp only [Act.put, List.setIfInBounds_toArray, List.set_cons_zero, List.set_cons_succ]
  refine wpList_call rfl (by simp [go_sem]; exact ⟨rfl, rfl⟩) ?_
  refine k.out.mono ?_
  rintro e w6 ⟨rfl, hW6, hB6⟩
  refine ⟨_, rfl, ?_⟩
  simp only [Act.put, List.setIfInBounds_toArray, List.set_cons_zero, List.set_cons_succ]
  have W6 := hideit (hW6.congr (g := seF n xs fs) fun j hj => cat_ke1 n xs fs y hy'.out j (by omega))
  have H6 := hideit (RowAt.belowB H5.out hcd.out hB6)
  have P6 := hideit (P5.out.below had.out hB6)
  have hE06 := hideit (Below.trans hE05.out (Below.mono hB6 hwd.out))
  clear k W5 H5 P5 hE05 hW6 hB6 e0 hu
  have e0 : w6.cell? ⟨c, 0, none⟩ = some (.slice (some ⟨a, o, none⟩) n cap) := H6.out.1 0 (by decide)
  have k := hideit (put_any d (5 + 68 * n) 5 n cap a o (seF n xs fs) (xB xs) fs w6 W6.out (fun i hi => (xB_nat hb'.out i hi).2) (by omega) (by omega) had.out P6.out)
  go_upto_region 7 with (go_at_call 31; refine k.out.mono ?_; rintro e w7 ⟨rfl, hW7, hB7⟩; replace hW7 := hideit hW7; replace hB7 := hideit hB7)
  have W7 := hideit (hW7.out.congr (g := seF n xs fs) fun j hj => cat_ke2 n xs fs j)
  have hE07 := hideit (Below.trans hE06.out (Below.mono hB7.out hwd.out))
  clear k e0 W6 H6 P6 hE06 hW7 hB7
  have k := hideit (wdone_ok d (5 + 68 * n) (5 + 68 * n) (seF n xs fs) w7 W7.out (by omega) (by omega))
  go_wp2_with (go_at_call 22; refine k.out.mono ?_; rintro e w8 ⟨g, rfl, hg8, hR8, hE8⟩; replace hR8 := hideit hR8; replace hE8 := hideit hE8)
  go_ret2
  exact ⟨g, rfl, Nat.le_trans (Below.size hE07.out) hg8, hR8.out.congr fun j hj => (by simp only [yv]; unfold padF; rw [if_pos hj]), Ext.trans hE07.out hE8.out⟩
/-- the bytes of a block of keys -/
def keF (n : Nat) (xs : Nat → Int) (fs : Nat → Nat → BitVec 8) (t : Nat → BitVec 8) (j : Nat) : BitVec 8 := catF (seF n xs fs) (5 + 68 * n) t j
set_option maxRecDepth 20000 in
set_option maxHeartbeats 2000000 in
theorem keys_bad (v : Value) (n : Nat) (xs : Nat → Int) (fs : Nat → Nat → BitVec 8) (t : Nat → BitVec 8) (w : World) (h : EV v n xs fs w) (hw : inW n xs) (hb : ¬ okE n xs) :
    Calls Try.prog 13 #[.agg (row 33 (kyv v t)).toArray] w fun e w' => e = .returned (.tuple #[.slice none 0 0, .int .i64 1]) ∧ Ext w w' := by
  have H0 : Hid (RowAt w.heap.size 33 (kyv v t) (w.alloc (.cells (row 33 (kyv v t)).toArray 37))) := RowAt.new w 33 _ 37
  have hE0 : Hid (Ext w (w.alloc (.cells (row 33 (kyv v t)).toArray 37))) := (Below.refl _ _).alloc (Nat.le_refl _) _
  have E0 := hideit (h.ext hE0.out)
  clear h
  go_enter Try.func13, Try.ntmps13
  go_upto_region 1 with (fail)
  obtain ⟨w1, hw1⟩ : ∃ w1, w1 = w.alloc (.cells (row 33 (kyv v t)).toArray 37) := ⟨_, rfl⟩
  rw [← hw1] at H0 hE0 E0 ⊢
  clear hw1
  obtain ⟨c, hc⟩ : ∃ c, c = w.heap.size := ⟨_, rfl⟩
  rw [← hc] at H0 ⊢
  clear hc
  have e0 : w1.cell? ⟨c, 0, none⟩ = some v := H0.out.1 0 (by decide)
  clear e0
  have k := hideit (seal_bad v n xs fs t w1 E0.out hw hb)
  refine wp_region_lit ?_
  refine wpList_load_mid rfl 37 (.tmp 1) rfl c 0 rfl (row 33 (kyv v t)) _ H0.out.range Try.underlying37 rfl (by rw [row_length]; exact info37) ?_
  simp only [Act.put, List.setIfInBounds_toArray, List.set_cons_zero, List.set_cons_succ]
  refine wpList_call rfl (by simp [go_sem]; exact ⟨rfl, rfl⟩) ?_
  refine k.out.mono ?_
  rintro e w2 ⟨rfl, hE2⟩
  refine ⟨_, rfl, ?_⟩
  simp only [Act.put, List.setIfInBounds_toArray, List.set_cons_zero, List.set_cons_succ]
  have hE02 := hideit (Ext.trans hE0.out hE2)
  clear k H0 E0 hE0 hE2 hw hb
  go_wp2
  go_ret2
  exact ⟨rfl, hE02.out⟩
set_option maxRecDepth 20000 in
set_option maxHeartbeats 2000000 in
theorem keys_ok (v : Value) (n : Nat) (xs : Nat → Int) (fs : Nat → Nat → BitVec 8) (t : Nat → BitVec 8) (w : World) (h : EV v n xs fs w) (hw : inW n xs) (hb : okE n xs) :
    Calls Try.prog 13 #[.agg (row 33 (kyv v t)).toArray] w fun e w' => ∃ g, e = .returned (.tuple #[.slice (some ⟨g, 0, none⟩) 512 512, .int .i64 0]) ∧ w.heap.size ≤ g ∧ RowAt g 512 (yv (padF (keF n xs fs t) (37 + 68 * n))) w' ∧ Ext w w' := by
  have H0 : Hid (RowAt w.heap.size 33 (kyv v t) (w.alloc (.cells (row 33 (kyv v t)).toArray 37))) := RowAt.new w 33 _ 37
  have hE0 : Hid (Ext w (w.alloc (.cells (row 33 (kyv v t)).toArray 37))) := (Below.refl _ _).alloc (Nat.le_refl _) _
  have E0 := hideit (h.ext hE0.out)
  clear h
  go_enter Try.func13, Try.ntmps13
  go_upto_region 1 with (fail)
  obtain ⟨w1, hw1⟩ : ∃ w1, w1 = w.alloc (.cells (row 33 (kyv v t)).toArray 37) := ⟨_, rfl⟩
  rw [← hw1] at H0 hE0 E0 ⊢
  clear hw1
  obtain ⟨c, hc⟩ : ∃ c, c = w.heap.size := ⟨_, rfl⟩
  rw [← hc] at H0 ⊢
  clear hc
  have e0 : w1.cell? ⟨c, 0, none⟩ = some v := H0.out.1 0 (by decide)
  clear e0
  have n2 : n ≤ 2 := by have := hb.1; omega
  have k := hideit (seal_ok v n xs fs t w1 E0.out hw hb)
  refine wp_region_lit ?_
  refine wpList_load_mid rfl 37 (.tmp 1) rfl c 0 rfl (row 33 (kyv v t)) _ H0.out.range Try.underlying37 rfl (by rw [row_length]; exact info37) ?_
  simp only [Act.put, List.setIfInBounds_toArray, List.set_cons_zero, List.set_cons_succ]
  refine wpList_call rfl (by simp [go_sem]; exact ⟨rfl, rfl⟩) ?_
  refine k.out.mono ?_
  rintro e w2 ⟨q, rfl, hq2, hR2, hE2⟩
  refine ⟨_, rfl, ?_⟩
  simp only [Act.put, List.setIfInBounds_toArray, List.set_cons_zero, List.set_cons_succ]
  have H2 := hideit (H0.out.carry hE2)
  have hE02 := hideit (Ext.trans hE0.out hE2)
  replace hR2 := hideit hR2
  clear k H0 E0 hE0 hE2 hw hb hq2
  go_upto_region 5 with (go_at_call 20; refine (neww_any 512 (fun _ => 0#8) _ (by omega)).mono ?_; rintro e w3 ⟨rfl, hW3, hE3⟩; replace hW3 := hideit hW3; replace hE3 := hideit hE3)
  obtain ⟨d, hd⟩ : ∃ d, d = w2.heap.size := ⟨_, rfl⟩
  have hcd : Hid (c < d) := hideit (by rw [hd]; exact H2.out.2.2)
  have hqd : Hid (q < d) := hideit (by rw [hd]; exact hR2.out.2.2)
  have hwd : Hid (w.heap.size ≤ d) := hideit (by rw [hd]; exact Below.size hE02.out)
  rw [← hd] at hW3 ⊢
  have H3 := hideit (H2.out.carry hE3.out)
  have R3 := hideit (hR2.out.carry hE3.out)
  have hE03 := hideit (Ext.trans hE02.out hE3.out)
  clear hd H2 hR2 hE02 hE3
  have hB : Hid (BV (.slice (some ⟨q, 0, none⟩) (5 + 68 * n) (5 + 68 * n)) (5 + 68 * n) (seF n xs fs) w3) := hideit (.inr ⟨_, _, rfl, Nat.le_refl _, R3.out.lie (5 + 68 * n) (Nat.le_refl _)⟩)
  have k := hideit (wbytes_ok d 512 0 (5 + 68 * n) _ (seF n xs fs) false _ w3 hW3.out (by omega) (by decide) hB.out)
  go_upto_region 6 with (go_at_call 21; refine k.out.mono ?_; rintro e w4 ⟨rfl, hW4, hB4⟩; replace hW4 := hideit hW4; replace hB4 := hideit hB4)
  have W4 : Hid (Wr d 512 (5 + 68 * n) (seF n xs fs) false w4) := hideit (by
    have := hW4.out.congr (g := seF n xs fs) fun j hj => (by unfold catF; rw [if_neg (by omega), Nat.sub_zero])
    rwa [Nat.zero_add] at this)
  have H4 := hideit (RowAt.belowB H3.out hcd.out hB4.out)
  have hE04 := hideit (Below.trans hE03.out (Below.mono hB4.out hwd.out))
  clear k hB hW4 H3 R3 hE03 hW3 hB4
  have k := hideit (wbytes_ok d 512 (5 + 68 * n) 32 _ t false _ w4 W4.out (by omega) (by decide) (ky_bytes H4.out))
  go_upto_region 7 with (go_at_call 21; refine k.out.mono ?_; rintro e w5 ⟨rfl, hW5, hB5⟩; replace hW5 := hideit hW5; replace hB5 := hideit hB5)
  have hE05 := hideit (Below.trans hE04.out (Below.mono hB5.out hwd.out))
  clear k W4 H4 hE04 hB5
  have k := wdone_ok d 512 (5 + 68 * n + 32) _ w5 hW5.out (by omega) (by decide)
  rw [show 5 + 68 * n + 32 = 37 + 68 * n by omega] at k
  replace k := hideit k
  go_wp2_with (go_at_call 22; refine k.out.mono ?_; rintro e w8 ⟨g, rfl, hg8, hR8, hE8⟩; replace hR8 := hideit hR8; replace hE8 := hideit hE8)
  go_ret2
  exact ⟨g, rfl, Nat.le_trans (Below.size hE05.out) hg8, hR8.out, Ext.trans hE05.out hE8.out⟩
end Go.Proofs.Ytomalmnpojcloaa
