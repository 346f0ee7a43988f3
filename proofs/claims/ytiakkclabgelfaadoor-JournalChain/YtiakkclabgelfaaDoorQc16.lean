/-
  Cells of a slice of the call's own, set. Writers: what is written, for every Writer in every world.
-/
import Derived.Test.YtiakkclabgelfaaDoorQc12
import Derived.Lib.BufferMore
import Derived.Test.YtiakkclabgelfaaDoorQc1
import Derived.Test.YtiakkclabgelfaaDoorQc15
namespace Go.Proofs.YtiakkclabgelfaaDoor
open Go.RowKit Go.BigFrame
section
variable {base : Nat} {e : TypeId} {v : Value} {n : Nat} {g : Nat → Value} {w : World}
theorem OwnB.down (h : OwnB base e v n g w) {base' : Nat} (hb : base' ≤ base) : OwnB base' e v n g w := by
  obtain ⟨h1, h2⟩ := h
  refine ⟨h1, ?_⟩
  rcases h2 with h2 | ⟨k, cap, cur, hv, hg, r⟩
  · exact .inl h2
  · exact .inr ⟨k, cap, cur, hv, Nat.le_trans hb hg, r⟩
theorem OwnB.set (h : OwnB base e v n g w) {b : Nat} (hb : v.ownBlock = some b) (i : Nat) (hi : i < n) (u : Value) : OwnB base e v n (fun j => if j = i then u else g j) (w.setCell ⟨b, i, none⟩ u) := by
  obtain ⟨h1, h2⟩ := h
  refine ⟨by rw [row_length, Nat.mul_one], ?_⟩
  rcases h2 with ⟨rfl, h0⟩ | ⟨k, cap, cur, rfl, hg, hh, hc, hm, hs, ht⟩
  · omega
  · simp only [Value.ownBlock, Option.some.injEq] at hb
    subst hb
    refine .inr ⟨k, cap, cur.setIfInBounds i u, rfl, hg, Lib.heap_setCell_same hh u, hc, hm, by simpa using hs, ?_⟩
    rw [Nat.mul_one] at ht hs ⊢
    apply List.ext_getElem?
    intro j
    have hj0 : ∀ j, j < n → cur.toList[j]? = some (g j) := fun j hj => by
      have := congrArg (fun l => l[j]?) ht
      simp only [List.getElem?_take, hj, if_true, row_get n g j hj] at this
      exact this
    by_cases hj : j < n
    · rw [row_get n _ j hj, List.getElem?_take, if_pos hj, Array.toList_setIfInBounds, List.getElem?_set]
      by_cases e : i = j
      · subst e
        rw [if_pos rfl, if_pos rfl, if_pos (by simp; omega)]
      · rw [if_neg e, if_neg (Ne.symm e)]
        exact hj0 j hj
    · rw [List.getElem?_eq_none (by simp; omega), List.getElem?_eq_none (by rw [row_length]; omega)]
theorem OwnB.other (h : OwnB base e v n g w) (a : Addr) (ha : v.ownBlock ≠ some a.block) (u : Value) : OwnB base e v n g (w.setCell a u) := by
  obtain ⟨h1, h2⟩ := h
  refine ⟨h1, ?_⟩
  rcases h2 with h2 | ⟨k, cap, cur, hv, hg, hh, r⟩
  · exact .inl h2
  · subst hv
    refine .inr ⟨k, cap, cur, rfl, hg, ?_, r⟩
    rw [Below.heap_setCell _ _ _ _ (fun e => ha (by simp [Value.ownBlock, e]))]
    exact hh
end
end Go.Proofs.YtiakkclabgelfaaDoor
namespace Go.Proofs.YtiakkclabgelfaaDoor
set_option maxRecDepth 20000
open Go.RowKit Go.BigFrame
def wrv (size : Nat) (v : Value) (bad : Bool) : Nat → Value := fun j => if j = 0 then .int .i64 (size : Int) else if j = 1 then v else .bool bad
def WrAt (c size : Nat) (v : Value) (bad : Bool) (w : World) : Prop := RowAt c 3 (wrv size v bad) w
def Wr (c size n : Nat) (f : Nat → BitVec 8) (bad : Bool) (w : World) : Prop := ∃ v, WrAt c size v bad w ∧ OwnB (c + 1) 5 v n (yv f) w
theorem WrAt.size {c size : Nat} {v : Value} {bad : Bool} {w : World} (h : WrAt c size v bad w) : w.cell? ⟨c, 0, none⟩ = some (.int .i64 (size : Int)) := h.1 0 (by decide)
theorem WrAt.bytes {c size : Nat} {v : Value} {bad : Bool} {w : World} (h : WrAt c size v bad w) : w.cell? ⟨c, 1, none⟩ = some v := h.1 1 (by decide)
theorem WrAt.bad {c size : Nat} {v : Value} {bad : Bool} {w : World} (h : WrAt c size v bad w) : w.cell? ⟨c, 2, none⟩ = some (.bool bad) := h.1 2 (by decide)
theorem WrAt.setBad {c size : Nat} {v : Value} {bad : Bool} {w : World} (h : WrAt c size v bad w) (b : Bool) : WrAt c size v b (w.setCell ⟨c, 2, none⟩ (.bool b)) :=
  (RowAt.set h 2 (.bool b)).congr fun j hj => by
    rcases (by omega : j = 0 ∨ j = 1 ∨ j = 2) with rfl | rfl | rfl <;> rfl
theorem WrAt.setBytes {c size : Nat} {v : Value} {bad : Bool} {w : World} (h : WrAt c size v bad w) (u : Value) : WrAt c size u bad (w.setCell ⟨c, 1, none⟩ u) :=
  (RowAt.set h 1 u).congr fun j hj => by
    rcases (by omega : j = 0 ∨ j = 1 ∨ j = 2) with rfl | rfl | rfl <;> rfl
theorem Wr.ext {c size n : Nat} {f : Nat → BitVec 8} {bad : Bool} {w X : World} (h : Wr c size n f bad w) (k : Ext w X) : Wr c size n f bad X := by
  obtain ⟨v, h1, h2⟩ := h
  exact ⟨v, RowAt.carry h1 k, h2.ext k⟩
theorem Wr.lt {c size n : Nat} {f : Nat → BitVec 8} {bad : Bool} {w : World} (h : Wr c size n f bad w) : c < w.heap.size := by
  obtain ⟨v, h1, _⟩ := h
  exact h1.2.2
theorem Wr.congr {c size n : Nat} {f g : Nat → BitVec 8} {bad : Bool} {w : World} (h : Wr c size n f bad w) (e : ∀ j, j < n → f j = g j) : Wr c size n g bad w := by
  obtain ⟨v, h1, h2⟩ := h
  exact ⟨v, h1, h2.congr fun j hj => by simp only [yv]; rw [e j hj]⟩
theorem own_noblock {base n c : Nat} {e : TypeId} {v : Value} {g : Nat → Value} {w : World} (h : OwnB base e v n g w) (hc : c < base) : v.ownBlock ≠ some c := fun hh => by
  have := (h.lt c hh).1
  omega
set_option maxRecDepth 20000 in
theorem wleft_any (c size n : Nat) (f : Nat → BitVec 8) (bad : Bool) (w : World) (h : Wr c size n f bad w) (hn : n ≤ size) (hs : size ≤ 16777216) :
    Calls Tryd.prog 88 #[.pointer (some ⟨c, 0, none⟩)] w fun e w' => e = .returned (.int .i64 ((size : Int) - (n : Int))) ∧ Ext w w' := by
  obtain ⟨v, h1, h2⟩ := h
  obtain ⟨oa, cp, rfl⟩ := h2.bv.form
  have e0 := h1.size
  have e1 := h1.bytes
  have s0 : (0 : Int) ≤ (size : Int) := by omega
  have s1 : (size : Int) ≤ 16777216 := by omega
  have s2 : (n : Int) ≤ (size : Int) := by omega
  have s3 : (0 : Int) ≤ (n : Int) := by omega
  clear h1 h2
  go_enter Tryd.func88, Tryd.ntmps88
  go_wp2
  go_quiet (fail)
  go_wp2
  go_ret
  exact ⟨rfl, below_drewN _ _⟩
theorem wr_new (w : World) (size : Nat) (t : TypeId) (f : Nat → BitVec 8) : Wr w.heap.size size 0 f false (w.alloc (.cells #[.int .i64 (size : Int), .slice none 0 0, .bool false] t)) := by
  refine ⟨.slice none 0 0, RowAt.newOf w 3 (wrv size (.slice none 0 0) false) t _ (fun j hj => ?_), own_nil _ _ _ _⟩
  rcases (by omega : j = 0 ∨ j = 1 ∨ j = 2) with rfl | rfl | rfl <;> rfl
theorem neww_any (size : Nat) (f : Nat → BitVec 8) (w : World) (hs : size ≤ 16777216) :
    Calls Tryd.prog 66 #[.int .i64 (size : Int)] w fun e w' => e = .returned (.pointer (some ⟨w.heap.size, 0, none⟩)) ∧ Wr w.heap.size size 0 f false w' ∧ Ext w w' := by
  have s0 : (0 : Int) ≤ (size : Int) := by omega
  have s1 : (size : Int) ≤ 16777216 := by omega
  go_enter Tryd.func66, Tryd.ntmps66
  go_wp2
  go_ret
  exact ⟨rfl, wr_new w size 131 f, (Below.refl _ _).alloc (Nat.le_refl _) _⟩
def byB (x : BitVec 64) (j : Nat) : BitVec 8 := (x >>> (8 * j)).setWidth 8
def Wx (d : Nat) (w X : World) : Prop := w.heap.size ≤ X.heap.size ∧ ∀ c, c < w.heap.size → c ≠ d → (∀ cur, w.heap[c]? ≠ some (.cells cur 5 (0, 0))) → X.heap[c]? = w.heap[c]?
theorem Wx.refl (d : Nat) (w : World) : Wx d w w := ⟨Nat.le_refl _, fun _ _ _ _ => rfl⟩
theorem Wx.trans {d : Nat} {w X Y : World} (h : Wx d w X) (k : Wx d X Y) : Wx d w Y := ⟨Nat.le_trans h.1 k.1, fun c h1 h2 h3 => by
  have e := h.2 c h1 h2 h3
  rw [k.2 c (Nat.lt_of_lt_of_le h1 h.1) h2 (fun cur => by rw [e]; exact h3 cur), e]⟩
theorem Wx.of_ext {d : Nat} {w X : World} (h : Ext w X) : Wx d w X := ⟨Below.size h, fun c h1 _ _ => Below.block h c h1⟩
theorem wr_grown {c size n m : Nat} {v v' : Value} {f : Nat → BitVec 8} {bad : Bool} {w X : World} (h1 : WrAt c size v bad w) (h2 : OwnB (c + 1) 5 v n (yv f) w) (hg : w.grownBy X v.ownBlock) {g : Nat → BitVec 8} (h3 : OwnB (c + 1) 5 v' m (yv g) X) :
    WrAt c size v bad X ∧ Wr c size m g bad (X.setCell ⟨c, 1, none⟩ v') ∧ Below c w (X.setCell ⟨c, 1, none⟩ v') ∧ Wx c w (X.setCell ⟨c, 1, none⟩ v') := by
  have hne : some c ≠ v.ownBlock := fun hh => own_noblock h2 (by omega) hh.symm
  have hX : WrAt c size v bad X := RowAt.grown h1 hg hne
  refine ⟨hX, ⟨v', hX.setBytes v', h3.other _ (own_noblock h3 (by show c < c + 1; omega)) _⟩, ?_, ?_⟩
  · exact Below.setCell (below_grown (Nat.le_of_lt h1.2.2) hg fun k hk => by have := (h2.lt k hk).1; omega) (by show c ≤ c; omega) _
  · refine ⟨Nat.le_trans hg.size (but_setCell X c 1 v').size, fun k hk hkc hcl => ?_⟩
    rw [(but_setCell X c 1 v').block k (Nat.lt_of_lt_of_le hk hg.size) (by simpa using hkc)]
    refine hg.block k hk fun hh => ?_
    rcases h2.2 with ⟨rfl, _⟩ | ⟨g, cap, cur, rfl, _, hgc, _⟩
    · cases hh
    · injection hh with hh
      subst hh
      exact hcl cur hgc
set_option maxRecDepth 20000 in
set_option maxHeartbeats 2000000 in
theorem wbytes_okx (c size n l : Nat) (f b : Nat → BitVec 8) (bad : Bool) (u : Value) (w : World) (h : Wr c size n f bad w) (hn : n + l ≤ size) (hs : size ≤ 16777216) (hb : BV u l b w) :
    Calls Tryd.prog 72 #[.pointer (some ⟨c, 0, none⟩), u] w fun e w' => e = .returned (.tuple #[]) ∧ Wr c size (n + l) (catF f n b) bad w' ∧ Below c w w' ∧ Wx c w w' := by
  obtain ⟨ou, cu, rfl⟩ := hb.form
  have hw := hideit h.lt
  replace h := hideit h
  replace hb := hideit hb
  have hn9 : n ≤ size := by omega
  have s0 : (0 : Int) ≤ (l : Int) := by omega
  have s1 : ¬ ((size : Int) - (n : Int) < (l : Int)) := by omega
  go_enter Tryd.func72, Tryd.ntmps72
  go_upto_region 3 with (go_at_call 88; refine (wleft_any c size n f bad _ h.out hn9 hs).mono ?_; rintro e w1 ⟨rfl, hE1⟩; replace hE1 := hideit hE1; have h1 := hideit (h.out.ext hE1.out); have hb1 := hideit (hb.out.ext hE1.out); clear h hb)
  obtain ⟨v, hA, hO⟩ := h1.out
  have e1 := hA.bytes
  have g1 := hA.2.1 1 (by decide)
  replace hA := hideit hA
  replace hO := hideit hO
  clear h1
  obtain ⟨ov, cv, rfl⟩ := hO.out.bv.form
  refine wp_region_lit ?_
  refine wpList_run rfl (.pointer (some ⟨c, 0, none⟩)) (by simp [go_sem]) ?_
  simp only [zp0, zp1, zp2, zp3]
  refine wpList_run rfl (.pointer (some ⟨c, 0, none⟩)) (by simp [go_sem]) ?_
  simp only [zp0, zp1, zp2, zp3]
  refine wpList_run rfl (.pointer (some ⟨c, 0, none⟩)) (by simp [go_sem]) ?_
  simp only [zp0, zp1, zp2, zp3]
  refine wpList_run rfl (.pointer (some ⟨c, 1, none⟩)) (by simp [go_sem]) ?_
  simp only [zp0, zp1, zp2, zp3]
  refine wpList_run rfl (.slice ov n cv) (by simp [go_sem, e1]) ?_
  simp only [zp0, zp1, zp2, zp3]
  refine wpList_run rfl (.slice ou l cu) (by simp [go_sem]) ?_
  simp only [zp0, zp1, zp2, zp3]
  refine wpList_growV (n := n) (base := c + 1) elem22 rfl (.tmp 18) (.tmp 19) rfl rfl hO.out (.slice ou l cu) l b (yv (catF f n b)) rfl hb1.out (fun j hj => by simp only [yv]; unfold catF; rw [if_pos hj]) (fun j hj => by simp only [yv]; unfold catF; rw [if_neg (by omega), Nat.add_sub_cancel_left]) (by omega) (by have := hA.out.2.2; omega) ?_
  intro v' X hO' hg'
  obtain ⟨k1, k2, k3, k4⟩ := wr_grown hA.out hO.out hg' hO'
  have e2 := k1.bytes
  have g2 := k1.2.1 1 (by decide)
  obtain ⟨o', c', rfl⟩ := hO'.bv.form
  replace k2 := hideit k2
  replace k3 := hideit (Below.trans (Below.mono hE1.out (by have := hw.out; omega)) k3)
  replace k4 := hideit (Wx.trans (Wx.of_ext hE1.out) k4)
  clear hO' hg' k1 e1 g1 hA hO hb1 hE1
  simp only [zp0, zp1, zp2, zp3]
  go_wp2
  exact bodyPost_end (v := .tuple #[]) (by simp [results, Tryd.results72]) rfl ⟨rfl, k2.out, k3.out, k4.out⟩
set_option maxRecDepth 20000 in
set_option maxHeartbeats 2000000 in
theorem wuint_okx (c size n0 n : Nat) (f : Nat → BitVec 8) (bad : Bool) (x : BitVec 64) (w : World) (h : Wr c size n0 f bad w) (hn : n0 + n ≤ size) (hs : size ≤ 16777216) (hi : iswB n = true) (hn8 : n ≤ 8) (hx : x.toNat / 2 ^ (8 * n) = 0) :
    Calls Tryd.prog 67 #[.pointer (some ⟨c, 0, none⟩), .int .i64 (n : Int), .int .u64 (x.toNat : Int)] w fun e w' => e = .returned (.tuple #[]) ∧ Wr c size (n0 + n) (catF f n0 (byB x)) bad w' ∧ Below c w w' ∧ Wx c w w' := by
  have hw := hideit h.lt
  replace h := hideit h
  replace hi := hideit hi
  have hn9 : n0 ≤ size := by omega
  have s0 : (0 : Int) ≤ (n : Int) := by omega
  have s8 : (n : Int) ≤ 8 := by omega
  have s1 : ¬ ((size : Int) - (n0 : Int) < (n : Int)) := by omega
  have hx2 : (x.toNat : Int) / 2 ^ (8 * n) = 0 := by exact_mod_cast hx
  go_enter Tryd.func67, Tryd.ntmps67
  go_upto_region 3 with (first | (go_at_call 81; refine (isw_any n _).mono ?_; rw [hi.out]; rintro e w' ⟨rfl, rfl⟩) | (go_at_call 88; refine (wleft_any c size n0 f bad _ h.out hn9 hs).mono ?_; rintro e w1 ⟨rfl, hE1⟩; replace hE1 := hideit hE1; have h1 := hideit (h.out.ext hE1.out); clear h))
  go_wp2
  go_loopw [2, 28] (fun y i X => ∃ k : Nat, k ≤ n ∧ i = .int .i64 k ∧ y = .int .u64 ((x.toNat / 2 ^ (8 * k) : Nat) : Int) ∧ Wr c size (n0 + k) (catF f n0 (byB x)) bad X ∧ Below c w1 X ∧ Wx c w1 X) (fun _ i _ => n - (intOf i).toNat)
  case atStart => exact ⟨0, Nat.zero_le _, rfl, by simp, h1.out.congr fun j hj => by unfold catF; rw [if_pos hj], Below.refl _ _, Wx.refl _ _⟩
  case round =>
    obtain ⟨k, hk, rfl, rfl, hW, hB, hV⟩ := hrel
    replace hB := hideit hB
    replace hV := hideit hV
    by_cases hlt : k < n
    · obtain ⟨q, hq⟩ : ∃ q, q = x.toNat / 2 ^ (8 * k) := ⟨_, rfl⟩
      have hq8 : IntKind.u8.wrap (q : Int) = ((byB x k).toNat : Int) := by
        unfold byB
        rw [IntKind.wrap_u8, BitVec.toNat_setWidth, BitVec.toNat_ushiftRight, Nat.shiftRight_eq_div_pow, ← hq]
        omega
      have hqn : q / 256 = x.toNat / 2 ^ (8 * (k + 1)) := by
        rw [hq, Nat.div_div_eq_div_mul, show 8 * (k + 1) = 8 * k + 8 by omega, Nat.pow_add]
      have hq64 : q < 18446744073709551616 := by rw [hq]; exact Nat.lt_of_le_of_lt (Nat.div_le_self _ _) x.isLt
      rw [← hq]
      replace hqn := hideit hqn
      clear hq
      have q0 : (0 : Int) ≤ (q : Int) := by omega
      have q1 : (q : Int) < 18446744073709551616 := by omega
      have k0 : (0 : Int) ≤ (k : Int) := by omega
      have k1 : (k : Int) < (n : Int) := by omega
      replace hW := hideit hW
      go_upto_region 5 with (fail)
      obtain ⟨v, hA, hO⟩ := hW.out
      have e1 := hA.bytes
      obtain ⟨ov, cv, rfl⟩ := hO.bv.form
      have hE : Ext wr (wr.alloc (.cells #[.int .u8 ((byB x k).toNat : Int)] 5)) := (Below.refl _ _).alloc (Nat.le_refl _) _
      have hN := newB wr #[.int .u8 ((byB x k).toNat : Int)] 1 (fun _ => byB x k) (fun j hj => by
        obtain rfl : j = 0 := by omega
        rfl)
      have hA2 : Hid (WrAt c size (.slice ov (n0 + k) cv) bad (wr.alloc (.cells #[.int .u8 ((byB x k).toNat : Int)] 5))) := RowAt.carry hA hE
      have hO2 := hideit (hO.ext hE)
      have hN2 := hideit hN.1
      have hB2 := hideit (Below.trans hB.out (Below.mono hE (Nat.le_of_lt hA.2.2)))
      have hV2 := hideit (Wx.trans hV.out (Wx.of_ext hE))
      clear hW hA hO hN hE hB hV
      refine wp_region_lit ?_
      refine wpList_run rfl (.pointer (some ⟨c, 0, none⟩)) (by simp [go_sem]) ?_
      simp only [zp0, zp1, zp2, zp3]
      refine wpList_run rfl (.pointer (some ⟨c, 0, none⟩)) (by simp [go_sem]) ?_
      simp only [zp0, zp1, zp2, zp3]
      refine wpList_run rfl (.pointer (some ⟨c, 0, none⟩)) (by simp [go_sem]) ?_
      simp only [zp0, zp1, zp2, zp3]
      refine wpList_run rfl (.pointer (some ⟨c, 1, none⟩)) (by simp [go_sem]) ?_
      simp only [zp0, zp1, zp2, zp3]
      refine wpList_run rfl (.slice ov (n0 + k) cv) (by simp [go_sem, e1]) ?_
      simp only [zp0, zp1, zp2, zp3]
      refine wpList_run rfl (.int .u64 (q : Int)) (by simp [go_sem]) ?_
      simp only [zp0, zp1, zp2, zp3]
      refine wpList_run rfl (.int .u8 ((byB x k).toNat : Int)) (by simp [go_sem, hq8]) ?_
      simp only [zp0, zp1, zp2, zp3]
      refine wpList_to rfl (.slice (some ⟨wr.heap.size, 0, none⟩) 1 1) (wr.alloc (.cells #[.int .u8 ((byB x k).toNat : Int)] 5)) (by simp [go_sem]) ?_
      simp only [zp0, zp1, zp2, zp3]
      refine wpList_growV (n := n0 + k) (base := c + 1) elem22 rfl (.tmp 34) (.tmp 37) rfl rfl hO2.out (.slice (some ⟨wr.heap.size, 0, none⟩) 1 1) 1 (fun _ => byB x k) (yv (catF f n0 (byB x))) rfl hN2.out (fun j hj => rfl) (fun j hj => by simp only [yv]; unfold catF; rw [if_neg (by omega), show n0 + k + j - n0 = k by omega]) (by omega) (by have := hA2.out.2.2; omega) ?_
      intro v' Y hO' hg'
      obtain ⟨k1', k2, k3, k4⟩ := wr_grown hA2.out hO2.out hg' hO'
      have e2 := k1'.bytes
      have g2 := k1'.2.1 1 (by decide)
      obtain ⟨o', c', rfl⟩ := hO'.bv.form
      replace k2 := hideit k2
      replace k3 := hideit (Below.trans hB2.out k3)
      replace k4 := hideit (Wx.trans hV2.out k4)
      clear hO' hg' k1' e1 hA2 hO2 hN2 hB2 hV2
      simp only [zp0, zp1, zp2, zp3]
      go_wp2
      refine ⟨⟨k + 1, by omega, by go_num, ?_, k2.out, k3.out, k4.out⟩, by simp [intOf]; omega⟩
      rw [← hqn.out]
      go_num
    · obtain rfl : k = n := by omega
      go_wp2
      exact bodyPost_end (v := .tuple #[]) (by simp [results, Tryd.results67]) rfl ⟨rfl, hW, Below.trans (Below.mono hE1.out (by have := hw.out; omega)) hB.out, Wx.trans (Wx.of_ext hE1.out) hV.out⟩
theorem wbytes_ok (c size n l : Nat) (f b : Nat → BitVec 8) (bad : Bool) (u : Value) (w : World) (h : Wr c size n f bad w) (hn : n + l ≤ size) (hs : size ≤ 16777216) (hb : BV u l b w) :
    Calls Tryd.prog 72 #[.pointer (some ⟨c, 0, none⟩), u] w fun e w' => e = .returned (.tuple #[]) ∧ Wr c size (n + l) (catF f n b) bad w' ∧ Below c w w' :=
  (wbytes_okx c size n l f b bad u w h hn hs hb).mono fun _ _ h => ⟨h.1, h.2.1, h.2.2.1⟩
theorem wuint_ok (c size n0 n : Nat) (f : Nat → BitVec 8) (bad : Bool) (x : BitVec 64) (w : World) (h : Wr c size n0 f bad w) (hn : n0 + n ≤ size) (hs : size ≤ 16777216) (hi : iswB n = true) (hn8 : n ≤ 8) (hx : x.toNat / 2 ^ (8 * n) = 0) :
    Calls Tryd.prog 67 #[.pointer (some ⟨c, 0, none⟩), .int .i64 (n : Int), .int .u64 (x.toNat : Int)] w fun e w' => e = .returned (.tuple #[]) ∧ Wr c size (n0 + n) (catF f n0 (byB x)) bad w' ∧ Below c w w' :=
  (wuint_okx c size n0 n f bad x w h hn hs hi hn8 hx).mono fun _ _ h => ⟨h.1, h.2.1, h.2.2.1⟩
theorem OwnB.rowAt {base b n cap : Nat} {e : TypeId} {g : Nat → Value} {w : World} (h : OwnB base e (.slice (some ⟨b, 0, none⟩) n cap) n g w) : RowAt b n g w := by
  rcases Nat.eq_zero_or_pos n with h0 | h0
  · subst h0
    rcases h.2 with ⟨h1, _⟩ | ⟨k, cap, cur, hv, _, hg, _⟩
    · cases h1
    · injection hv with hv
      injection hv with hv
      injection hv with hv
      subst hv
      exact ⟨fun j hj => by omega, fun j hj => by omega, (Array.getElem?_eq_some_iff.1 hg).1⟩
  · obtain ⟨k, c, hv, _, _, _, hR⟩ := h.lies h0
    injection hv with hv
    injection hv with hv
    injection hv with hv
    subst hv
    exact hR
def padF (f : Nat → BitVec 8) (n : Nat) (j : Nat) : BitVec 8 := if j < n then f j else 0#8
set_option maxRecDepth 20000 in
set_option maxHeartbeats 2000000 in
theorem wdone_ok (c size n : Nat) (f : Nat → BitVec 8) (w : World) (h : Wr c size n f false w) (hn : n ≤ size) (hs : size ≤ 16777216) :
    Calls Tryd.prog 70 #[.pointer (some ⟨c, 0, none⟩)] w fun e w' => ∃ g, e = .returned (.tuple #[.slice (some ⟨g, 0, none⟩) size size, .int .i64 0]) ∧ w.heap.size ≤ g ∧ RowAt g size (yv (padF f n)) w' ∧ Ext w w' := by
  obtain ⟨v, hA, hO⟩ := h
  have e0 := hA.size
  have e2 := hA.bad
  obtain ⟨ov, cv, rfl⟩ := hO.bv.form
  replace hA := hideit hA
  replace hO := hideit hO
  have s0 : (0 : Int) ≤ (size : Int) := by omega
  go_enter Tryd.func70, Tryd.ntmps70
  go_upto_region 5 with (fail)
  refine wp_region_lit ?_
  refine wpList_run rfl (.pointer (some ⟨c, 0, none⟩)) (by simp [go_sem]) ?_
  simp only [zp0, zp1, zp2, zp3]
  refine wpList_run rfl (.pointer (some ⟨c, 0, none⟩)) (by simp [go_sem]) ?_
  simp only [zp0, zp1, zp2, zp3]
  refine wpList_run rfl (.pointer (some ⟨c, 0, none⟩)) (by simp [go_sem]) ?_
  simp only [zp0, zp1, zp2, zp3]
  refine wpList_run rfl (.int .i64 (size : Int)) (by simp [go_sem, e0]) ?_
  simp only [zp0, zp1, zp2, zp3]
  refine wpList_made w Tryd.underlying39 (by kernel_rfl) rfl (.tmp 14) (.tmp 14) rfl size rfl rfl (by omega) ?_
  intro w1 hO1 hE1
  have hA1 : Hid (WrAt c size (.slice ov n cv) false w1) := RowAt.carry hA.out hE1
  have hO2 := hideit (hO.out.ext hE1)
  replace hO1 := hideit hO1
  replace hE1 := hideit hE1
  clear e0 e2 hA hO
  have e1 := hA1.out.bytes
  simp only [zp0, zp1, zp2, zp3]
  go_upto_region 6 with (fail)
  refine wp_region_lit ?_
  refine wpList_run rfl (.slice (some ⟨w.heap.size, 0, none⟩) size size) (by simp [go_sem]) ?_
  simp only [zp0, zp1, zp2, zp3]
  refine wpList_run rfl (.pointer (some ⟨c, 0, none⟩)) (by simp [go_sem]) ?_
  simp only [zp0, zp1, zp2, zp3]
  refine wpList_run rfl (.pointer (some ⟨c, 0, none⟩)) (by simp [go_sem]) ?_
  simp only [zp0, zp1, zp2, zp3]
  refine wpList_run rfl (.pointer (some ⟨c, 1, none⟩)) (by simp [go_sem]) ?_
  simp only [zp0, zp1, zp2, zp3]
  refine wpList_run rfl (.slice ov n cv) (by simp [go_sem, e1]) ?_
  simp only [zp0, zp1, zp2, zp3]
  obtain ⟨g, hg⟩ : ∃ g, g = w.heap.size := ⟨_, rfl⟩
  rw [← hg] at hO1 ⊢
  have hgw : w.heap.size ≤ g := by omega
  have hR := hideit hO1.out.rowAt
  clear hO1 hg e1
  rcases hO2.out.bv with ⟨hv, rfl⟩ | ⟨a, cap, hv, hcap, hL⟩
  · injection hv with q1 q2 q3
    subst q1
    subst q3
    clear hO2
    have hcp := run_copy_none (P := Tryd.prog) w1 39 39 3 5 (some ⟨g, 0, none⟩) none size size 0 0 Tryd.underlying39 (by kernel_rfl) (Nat.zero_min _)
    refine wpList_run rfl (.int .i64 0) (by simp [go_sem, hcp]) ?_
    simp only [zp0, zp1, zp2, zp3]
    go_wp2
    go_ret2
    exact ⟨g, rfl, hgw, hR.out.congr fun j hj => by simp only [yv]; unfold padF; rw [if_neg (by omega)], hE1.out⟩
  · injection hv with q1 q2 q3
    subst q1
    subst q3
    have hmin : n = Nat.min n size := by show n = min n size; omega
    refine wpList_copy_row rfl (.tmp 16) (.tmp 20) 39 39 rfl 5 Tryd.underlying39 (by kernel_rfl) g size _ hR.out 0 size size a n cv rfl rfl n (yv f) hmin (fun j hj => hL.1 j hj) (by omega) (fun _ _ => rfl) ?_
    have hR2 : Hid (RowAt g size (yv (padF f n)) (w1.setCells g 0 (row n (yv f)))) := (hR.out.part 0 n (yv f) (by omega)).congr fun j hj => by
      simp only [yv]
      unfold padF
      by_cases h1 : j < n
      · rw [if_pos (by omega), if_pos h1, Nat.sub_zero]
      · rw [if_neg (by omega), if_neg h1]
    have hE2 : Hid (Ext w (w1.setCells g 0 (row n (yv f)))) := below_setCells g hgw _ _ _ hE1.out
    clear hR hE1 hmin hL hO2 hA1
    generalize w1.setCells g 0 (row n (yv f)) = Y at *
    simp only [zp0, zp1, zp2, zp3]
    go_wp2
    go_ret2
    exact ⟨g, rfl, hgw, hR2.out, hE2.out⟩
end Go.Proofs.YtiakkclabgelfaaDoor
