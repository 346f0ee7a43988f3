/-
  Writers: what is written, for every Writer in every world. Slices of the call's own whose elements have one cell and any number of bytes: append to them; zeros behind nil; no word of the program.
-/
import Derived.Test.YtedgopionpdfeaaDoorQ15
import Derived.Test.YtedgopionpdfeaaDoorQ16
import Derived.Test.YtedgopionpdfeaaDoorQ11
namespace Go.Proofs.YtedgopionpdfeaaDoor
set_option maxRecDepth 20000
open Go.RowKit Go.BigFrame
def wrv (size : Nat) (v : Value) (bad : Bool) : Nat → Value := fun j => if j = 0 then .int .i64 (size : Int) else if j = 1 then v else .bool bad
def WrAt (c size : Nat) (v : Value) (bad : Bool) (w : World) : Prop := RowAt c 3 (wrv size v bad) w
/-- a Writer at c: n bytes are written, told by f -/
def Wr (c size n : Nat) (f : Nat → BitVec 8) (bad : Bool) (w : World) : Prop := ∃ v, WrAt c size v bad w ∧ OwnB (c + 1) 5 v n (yv f) w
theorem WrAt.size {c size : Nat} {v : Value} {bad : Bool} {w : World} (h : WrAt c size v bad w) : w.cell? ⟨c, 0, none⟩ = some (.int .i64 (size : Int)) := h.1 0 (by decide)
theorem WrAt.bytes {c size : Nat} {v : Value} {bad : Bool} {w : World} (h : WrAt c size v bad w) : w.cell? ⟨c, 1, none⟩ = some v := h.1 1 (by decide)
theorem WrAt.bad {c size : Nat} {v : Value} {bad : Bool} {w : World} (h : WrAt c size v bad w) : w.cell? ⟨c, 2, none⟩ = some (.bool bad) := h.1 2 (by decide)
theorem WrAt.setBad {c size : Nat} {v : Value} {bad : Bool} {w : World} (h : WrAt c size v bad w) (b : Bool) : WrAt c size v b (w.setCell ⟨c, 2, none⟩ (.bool b)) :=
  (RowAt.set h 2 (.bool b)).congr fun j hj => by
    rcases (by omega : j = 0 ∨ j = 1 ∨ j = 2) with rfl | rfl | rfl <;> rfl
theorem WrAt.setBytes {c size : Nat} {v : Value} {bad : Bool} {w : World} (h : WrAt c size v bad w) (u : Value) : WrAt c size u bad (w.setCell ⟨c, 1, none⟩ u) :=
  (RowAt.set h 1 u).congr fun j hj => by
    rcases (by omega : j = 0 ∨ j = 1 ∨ j = 2) with rfl | rfl | rfl <;> rfl
theorem Wr.ext {c size n : Nat} {f : Nat → BitVec 8} {bad : Bool} {w X : World} (h : Wr c size n f bad w) (k : Ext w X) : Wr c size n f bad X := by
  obtain ⟨v, h1, h2⟩ := h
  exact ⟨v, RowAt.carry h1 k, h2.ext k⟩
theorem Wr.lt {c size n : Nat} {f : Nat → BitVec 8} {bad : Bool} {w : World} (h : Wr c size n f bad w) : c < w.heap.size := by
  obtain ⟨v, h1, _⟩ := h
  exact h1.2.2
theorem Wr.congr {c size n : Nat} {f g : Nat → BitVec 8} {bad : Bool} {w : World} (h : Wr c size n f bad w) (e : ∀ j, j < n → f j = g j) : Wr c size n g bad w := by
  obtain ⟨v, h1, h2⟩ := h
  exact ⟨v, h1, h2.congr fun j hj => by simp only [yv]; rw [e j hj]⟩
theorem own_noblock {base n c : Nat} {e : TypeId} {v : Value} {g : Nat → Value} {w : World} (h : OwnB base e v n g w) (hc : c < base) : v.ownBlock ≠ some c := fun hh => by
  have := (h.lt c hh).1
  omega
set_option maxRecDepth 20000 in
theorem wleft_any (c size n : Nat) (f : Nat → BitVec 8) (bad : Bool) (w : World) (h : Wr c size n f bad w) (hn : n ≤ size) (hs : size ≤ 16777216) :
    Calls Tryd.prog 73 #[.pointer (some ⟨c, 0, none⟩)] w fun e w' => e = .returned (.int .i64 ((size : Int) - (n : Int))) ∧ Ext w w' := by
  obtain ⟨v, h1, h2⟩ := h
  obtain ⟨oa, cp, rfl⟩ := h2.bv.form
  have e0 := h1.size
  have e1 := h1.bytes
  have s0 : (0 : Int) ≤ (size : Int) := by omega
  have s1 : (size : Int) ≤ 16777216 := by omega
  have s2 : (n : Int) ≤ (size : Int) := by omega
  have s3 : (0 : Int) ≤ (n : Int) := by omega
  clear h1 h2
  go_enter Tryd.func73, Tryd.ntmps73
  go_wp2
  go_quiet (fail)
  go_wp2
  go_ret
  exact ⟨rfl, below_drewN _ _⟩
theorem wleft_nil (w : World) : Calls Tryd.prog 73 #[.pointer none] w fun e w' => e = .returned (.int .i64 0) ∧ w' = w := by
  go_enter Tryd.func73, Tryd.ntmps73
  go_wp2
  go_ret
  exact ⟨rfl, rfl⟩
theorem wuint_nil (n x : Value) (w : World) : Calls Tryd.prog 52 #[.pointer none, n, x] w fun e w' => e = .returned (.tuple #[]) ∧ w' = w := by
  go_enter Tryd.func52, Tryd.ntmps52
  go_wp2
  exact bodyPost_ret (v := .tuple #[]) (by simp [results, Tryd.results52]) rfl ⟨rfl, rfl⟩
theorem wbytes_nil (b : Value) (w : World) : Calls Tryd.prog 63 #[.pointer none, b] w fun e w' => e = .returned (.tuple #[]) ∧ w' = w := by
  go_enter Tryd.func63, Tryd.ntmps63
  go_wp2
  exact bodyPost_ret (v := .tuple #[]) (by simp [results, Tryd.results63]) rfl ⟨rfl, rfl⟩
theorem wdone_nil (w : World) : Calls Tryd.prog 55 #[.pointer none] w fun e w' => e = .returned (.tuple #[.slice none 0 0, .int .i64 6]) ∧ w' = w := by
  go_enter Tryd.func55, Tryd.ntmps55
  go_wp2
  go_ret2
  exact ⟨rfl, rfl⟩
/-- a Writer just made -/
theorem wr_new (w : World) (size : Nat) (t : TypeId) (f : Nat → BitVec 8) : Wr w.heap.size size 0 f false (w.alloc (.cells #[.int .i64 (size : Int), .slice none 0 0, .bool false] t)) := by
  refine ⟨.slice none 0 0, RowAt.newOf w 3 (wrv size (.slice none 0 0) false) t _ (fun j hj => ?_), own_nil _ _ _ _⟩
  rcases (by omega : j = 0 ∨ j = 1 ∨ j = 2) with rfl | rfl | rfl <;> rfl
theorem neww_any (size : Nat) (f : Nat → BitVec 8) (w : World) (hs : size ≤ 16777216) :
    Calls Tryd.prog 51 #[.int .i64 (size : Int)] w fun e w' => e = .returned (.pointer (some ⟨w.heap.size, 0, none⟩)) ∧ Wr w.heap.size size 0 f false w' ∧ Ext w w' := by
  have s0 : (0 : Int) ≤ (size : Int) := by omega
  have s1 : (size : Int) ≤ 16777216 := by omega
  go_enter Tryd.func51, Tryd.ntmps51
  go_wp2
  go_ret
  exact ⟨rfl, wr_new w size 106 f, (Below.refl _ _).alloc (Nat.le_refl _) _⟩
/-- the bytes of a number, the lowest first -/
def byB (x : BitVec 64) (j : Nat) : BitVec 8 := (x >>> (8 * j)).setWidth 8
/-- all but block d and rows of bytes stand -/
def Wx (d : Nat) (w X : World) : Prop := w.heap.size ≤ X.heap.size ∧ ∀ c, c < w.heap.size → c ≠ d → (∀ cur, w.heap[c]? ≠ some (.cells cur 5 (0, 0))) → X.heap[c]? = w.heap[c]?
theorem Wx.refl (d : Nat) (w : World) : Wx d w w := ⟨Nat.le_refl _, fun _ _ _ _ => rfl⟩
theorem Wx.trans {d : Nat} {w X Y : World} (h : Wx d w X) (k : Wx d X Y) : Wx d w Y := ⟨Nat.le_trans h.1 k.1, fun c h1 h2 h3 => by
  have e := h.2 c h1 h2 h3
  rw [k.2 c (Nat.lt_of_lt_of_le h1 h.1) h2 (fun cur => by rw [e]; exact h3 cur), e]⟩
theorem Wx.of_ext {d : Nat} {w X : World} (h : Ext w X) : Wx d w X := ⟨Below.size h, fun c h1 _ _ => Below.block h c h1⟩
/-- behind an append to what was written, and the store of it -/
theorem wr_grown {c size n m : Nat} {v v' : Value} {f : Nat → BitVec 8} {bad : Bool} {w X : World} (h1 : WrAt c size v bad w) (h2 : OwnB (c + 1) 5 v n (yv f) w) (hg : w.grownBy X v.ownBlock) {g : Nat → BitVec 8} (h3 : OwnB (c + 1) 5 v' m (yv g) X) :
    WrAt c size v bad X ∧ Wr c size m g bad (X.setCell ⟨c, 1, none⟩ v') ∧ Below c w (X.setCell ⟨c, 1, none⟩ v') ∧ Wx c w (X.setCell ⟨c, 1, none⟩ v') := by
  have hne : some c ≠ v.ownBlock := fun hh => own_noblock h2 (by omega) hh.symm
  have hX : WrAt c size v bad X := RowAt.grown h1 hg hne
  refine ⟨hX, ⟨v', hX.setBytes v', h3.other _ (own_noblock h3 (by show c < c + 1; omega)) _⟩, ?_, ?_⟩
  · exact Below.setCell (below_grown (Nat.le_of_lt h1.2.2) hg fun k hk => by have := (h2.lt k hk).1; omega) (by show c ≤ c; omega) _
  · refine ⟨Nat.le_trans hg.size (but_setCell X c 1 v').size, fun k hk hkc hcl => ?_⟩
    rw [(but_setCell X c 1 v').block k (Nat.lt_of_lt_of_le hk hg.size) (by simpa using hkc)]
    refine hg.block k hk fun hh => ?_
    rcases h2.2 with ⟨rfl, _⟩ | ⟨g, cap, cur, rfl, _, hgc, _⟩
    · cases hh
    · injection hh with hh
      subst hh
      exact hcl cur hgc
set_option maxRecDepth 20000 in
set_option maxHeartbeats 2000000 in
theorem wbytes_okx (c size n l : Nat) (f b : Nat → BitVec 8) (bad : Bool) (u : Value) (w : World) (h : Wr c size n f bad w) (hn : n + l ≤ size) (hs : size ≤ 16777216) (hb : BV u l b w) :
    Calls Tryd.prog 63 #[.pointer (some ⟨c, 0, none⟩), u] w fun e w' => e = .returned (.tuple #[]) ∧ Wr c size (n + l) (catF f n b) bad w' ∧ Below c w w' ∧ Wx c w w' := by
  obtain ⟨ou, cu, rfl⟩ := hb.form
  have hw := hideit h.lt
  replace h := hideit h
  replace hb := hideit hb
  have hn9 : n ≤ size := by omega
  have s0 : (0 : Int) ≤ (l : Int) := by omega
  have s1 : ¬ ((size : Int) - (n : Int) < (l : Int)) := by omega
  go_enter Tryd.func63, Tryd.ntmps63
  go_upto_region 3 with (go_at_call 73; refine (wleft_any c size n f bad _ h.out hn9 hs).mono ?_; rintro e w1 ⟨rfl, hE1⟩; replace hE1 := hideit hE1; have h1 := hideit (h.out.ext hE1.out); have hb1 := hideit (hb.out.ext hE1.out); clear h hb)
  obtain ⟨v, hA, hO⟩ := h1.out
  have e1 := hA.bytes
  have g1 := hA.2.1 1 (by decide)
  replace hA := hideit hA
  replace hO := hideit hO
  clear h1
  obtain ⟨ov, cv, rfl⟩ := hO.out.bv.form
  refine wp_region_lit ?_
  refine wpList_run rfl (.pointer (some ⟨c, 0, none⟩)) (by simp [go_sem]) ?_
  simp only [Act.put, List.setIfInBounds_toArray, List.set_cons_zero, List.set_cons_succ]
  refine wpList_run rfl (.pointer (some ⟨c, 0, none⟩)) (by simp [go_sem]) ?_
  simp only [Act.put, List.setIfInBounds_toArray, List.set_cons_zero, List.set_cons_succ]
  refine wpList_run rfl (.pointer (some ⟨c, 0, none⟩)) (by simp [go_sem]) ?_
  simp only [Act.put, List.setIfInBounds_toArray, List.set_cons_zero, List.set_cons_succ]
  refine wpList_run rfl (.pointer (some ⟨c, 1, none⟩)) (by simp [go_sem]) ?_
  simp only [Act.put, List.setIfInBounds_toArray, List.set_cons_zero, List.set_cons_succ]
  refine wpList_run rfl (.slice ov n cv) (by simp [go_sem, e1]) ?_
  simp only [Act.put, List.setIfInBounds_toArray, List.set_cons_zero, List.set_cons_succ]
  refine wpList_run rfl (.slice ou l cu) (by simp [go_sem]) ?_
  simp only [Act.put, List.setIfInBounds_toArray, List.set_cons_zero, List.set_cons_succ]
  refine wpList_growV (n := n) (base := c + 1) elem22 rfl (.tmp 18) (.tmp 19) rfl rfl hO.out (.slice ou l cu) l b (yv (catF f n b)) rfl hb1.out (fun j hj => by simp only [yv]; unfold catF; rw [if_pos hj]) (fun j hj => by simp only [yv]; unfold catF; rw [if_neg (by omega), Nat.add_sub_cancel_left]) (by omega) (by have := hA.out.2.2; omega) ?_
  intro v' X hO' hg'
  obtain ⟨k1, k2, k3, k4⟩ := wr_grown hA.out hO.out hg' hO'
  have e2 := k1.bytes
  have g2 := k1.2.1 1 (by decide)
  obtain ⟨o', c', rfl⟩ := hO'.bv.form
  replace k2 := hideit k2
  replace k3 := hideit (Below.trans (Below.mono hE1.out (by have := hw.out; omega)) k3)
  replace k4 := hideit (Wx.trans (Wx.of_ext hE1.out) k4)
  clear hO' hg' k1 e1 g1 hA hO hb1 hE1
  simp only [Act.put, List.setIfInBounds_toArray, List.set_cons_zero, List.set_cons_succ]
  go_wp2
  exact bodyPost_end (v := .tuple #[]) (by simp [results, Tryd.results63]) rfl ⟨rfl, k2.out, k3.out, k4.out⟩
set_option maxRecDepth 20000 in
set_option maxHeartbeats 2000000 in
theorem wuint_okx (c size n0 n : Nat) (f : Nat → BitVec 8) (bad : Bool) (x : BitVec 64) (w : World) (h : Wr c size n0 f bad w) (hn : n0 + n ≤ size) (hs : size ≤ 16777216) (hi : iswB n = true) (hn8 : n ≤ 8) (hx : x.toNat / 2 ^ (8 * n) = 0) :
    Calls Tryd.prog 52 #[.pointer (some ⟨c, 0, none⟩), .int .i64 (n : Int), .int .u64 (x.toNat : Int)] w fun e w' => e = .returned (.tuple #[]) ∧ Wr c size (n0 + n) (catF f n0 (byB x)) bad w' ∧ Below c w w' ∧ Wx c w w' := by
  have hw := hideit h.lt
  replace h := hideit h
  replace hi := hideit hi
  have hn9 : n0 ≤ size := by omega
  have s0 : (0 : Int) ≤ (n : Int) := by omega
  have s8 : (n : Int) ≤ 8 := by omega
  have s1 : ¬ ((size : Int) - (n0 : Int) < (n : Int)) := by omega
  have hx2 : (x.toNat : Int) / 2 ^ (8 * n) = 0 := by exact_mod_cast hx
  go_enter Tryd.func52, Tryd.ntmps52
  go_upto_region 3 with (first | (go_at_call 62; refine (isw_any n _).mono ?_; rw [hi.out]; rintro e w' ⟨rfl, rfl⟩) | (go_at_call 73; refine (wleft_any c size n0 f bad _ h.out hn9 hs).mono ?_; rintro e w1 ⟨rfl, hE1⟩; replace hE1 := hideit hE1; have h1 := hideit (h.out.ext hE1.out); clear h))
  go_wp2
  go_loopw [2, 28] (fun y i X => ∃ k : Nat, k ≤ n ∧ i = .int .i64 k ∧ y = .int .u64 ((x.toNat / 2 ^ (8 * k) : Nat) : Int) ∧ Wr c size (n0 + k) (catF f n0 (byB x)) bad X ∧ Below c w1 X ∧ Wx c w1 X) (fun _ i _ => n - (intOf i).toNat)
  case atStart => exact ⟨0, Nat.zero_le _, rfl, by simp, h1.out.congr fun j hj => by unfold catF; rw [if_pos hj], Below.refl _ _, Wx.refl _ _⟩
  case round =>
    obtain ⟨k, hk, rfl, rfl, hW, hB, hV⟩ := hrel
    replace hB := hideit hB
    replace hV := hideit hV
    by_cases hlt : k < n
    · obtain ⟨q, hq⟩ : ∃ q, q = x.toNat / 2 ^ (8 * k) := ⟨_, rfl⟩
      have hq8 : IntKind.u8.wrap (q : Int) = ((byB x k).toNat : Int) := by
        unfold byB
        rw [IntKind.wrap_u8, BitVec.toNat_setWidth, BitVec.toNat_ushiftRight, Nat.shiftRight_eq_div_pow, ← hq]
        omega
      have hqn : q / 256 = x.toNat / 2 ^ (8 * (k + 1)) := by
        rw [hq, Nat.div_div_eq_div_mul, show 8 * (k + 1) = 8 * k + 8 by omega, Nat.pow_add]
      have hq64 : q < 18446744073709551616 := by rw [hq]; exact Nat.lt_of_le_of_lt (Nat.div_le_self _ _) x.isLt
      rw [← hq]
      replace hqn := hideit hqn
      clear hq
      have q0 : (0 : Int) ≤ (q : Int) := by omega
      have q1 : (q : Int) < 18446744073709551616 := by omega
      have k0 : (0 : Int) ≤ (k : Int) := by omega
      have k1 : (k : Int) < (n : Int) := by omega
      replace hW := hideit hW
      go_upto_region 5 with (fail)
      obtain ⟨v, hA, hO⟩ := hW.out
      have e1 := hA.bytes
      obtain ⟨ov, cv, rfl⟩ := hO.bv.form
      have hE : Ext wr (wr.alloc (.cells #[.int .u8 ((byB x k).toNat : Int)] 5)) := (Below.refl _ _).alloc (Nat.le_refl _) _
      have hN := newB wr #[.int .u8 ((byB x k).toNat : Int)] 1 (fun _ => byB x k) (fun j hj => by
        obtain rfl : j = 0 := by omega
        rfl)
      have hA2 : Hid (WrAt c size (.slice ov (n0 + k) cv) bad (wr.alloc (.cells #[.int .u8 ((byB x k).toNat : Int)] 5))) := RowAt.carry hA hE
      have hO2 := hideit (hO.ext hE)
      have hN2 := hideit hN.1
      have hB2 := hideit (Below.trans hB.out (Below.mono hE (Nat.le_of_lt hA.2.2)))
      have hV2 := hideit (Wx.trans hV.out (Wx.of_ext hE))
      clear hW hA hO hN hE hB hV
      refine wp_region_lit ?_
      refine wpList_run rfl (.pointer (some ⟨c, 0, none⟩)) (by simp [go_sem]) ?_
      simp only [Act.put, List.setIfInBounds_toArray, List.set_cons_zero, List.set_cons_succ]
      refine wpList_run rfl (.pointer (some ⟨c, 0, none⟩)) (by simp [go_sem]) ?_
      simp only [Act.put, List.setIfInBounds_toArray, List.set_cons_zero, List.set_cons_succ]
      refine wpList_run rfl (.pointer (some ⟨c, 0, none⟩)) (by simp [go_sem]) ?_
      simp only [Act.put, List.setIfInBounds_toArray, List.set_cons_zero, List.set_cons_succ]
      refine wpList_run rfl (.pointer (some ⟨c, 1, none⟩)) (by simp [go_sem]) ?_
      simp only [Act.put, List.setIfInBounds_toArray, List.set_cons_zero, List.set_cons_succ]
      refine wpList_run rfl (.slice ov (n0 + k) cv) (by simp [go_sem, e1]) ?_
      simp only [Act.put, List.setIfInBounds_toArray, List.set_cons_zero, List.set_cons_succ]
      refine wpList_run rfl (.int .u64 (q : Int)) (by simp [go_sem]) ?_
      simp only [Act.put, List.setIfInBounds_toArray, List.set_cons_zero, List.set_cons_succ]
      refine wpList_run rfl (.int .u8 ((byB x k).toNat : Int)) (by simp [go_sem, hq8]) ?_
      simp only [Act.put, List.setIfInBounds_toArray, List.set_cons_zero, List.set_cons_succ]
      refine wpList_to rfl (.slice (some ⟨wr.heap.size, 0, none⟩) 1 1) (wr.alloc (.cells #[.int .u8 ((byB x k).toNat : Int)] 5)) (by simp [go_sem]) ?_
      simp only [Act.put, List.setIfInBounds_toArray, List.set_cons_zero, List.set_cons_succ]
      refine wpList_growV (n := n0 + k) (base := c + 1) elem22 rfl (.tmp 34) (.tmp 37) rfl rfl hO2.out (.slice (some ⟨wr.heap.size, 0, none⟩) 1 1) 1 (fun _ => byB x k) (yv (catF f n0 (byB x))) rfl hN2.out (fun j hj => rfl) (fun j hj => by simp only [yv]; unfold catF; rw [if_neg (by omega), show n0 + k + j - n0 = k by omega]) (by omega) (by have := hA2.out.2.2; omega) ?_
      intro v' Y hO' hg'
      obtain ⟨k1', k2, k3, k4⟩ := wr_grown hA2.out hO2.out hg' hO'
      have e2 := k1'.bytes
      have g2 := k1'.2.1 1 (by decide)
      obtain ⟨o', c', rfl⟩ := hO'.bv.form
      replace k2 := hideit k2
      replace k3 := hideit (Below.trans hB2.out k3)
      replace k4 := hideit (Wx.trans hV2.out k4)
      clear hO' hg' k1' e1 hA2 hO2 hN2 hB2 hV2
      simp only [Act.put, List.setIfInBounds_toArray, List.set_cons_zero, List.set_cons_succ]
      go_wp2
      refine ⟨⟨k + 1, by omega, by go_num, ?_, k2.out, k3.out, k4.out⟩, by simp [intOf]; omega⟩
      rw [← hqn.out]
      go_num
    · obtain rfl : k = n := by omega
      go_wp2
      exact bodyPost_end (v := .tuple #[]) (by simp [results, Tryd.results52]) rfl ⟨rfl, hW, Below.trans (Below.mono hE1.out (by have := hw.out; omega)) hB.out, Wx.trans (Wx.of_ext hE1.out) hV.out⟩
theorem wbytes_ok (c size n l : Nat) (f b : Nat → BitVec 8) (bad : Bool) (u : Value) (w : World) (h : Wr c size n f bad w) (hn : n + l ≤ size) (hs : size ≤ 16777216) (hb : BV u l b w) :
    Calls Tryd.prog 63 #[.pointer (some ⟨c, 0, none⟩), u] w fun e w' => e = .returned (.tuple #[]) ∧ Wr c size (n + l) (catF f n b) bad w' ∧ Below c w w' :=
  (wbytes_okx c size n l f b bad u w h hn hs hb).mono fun _ _ h => ⟨h.1, h.2.1, h.2.2.1⟩
theorem wuint_ok (c size n0 n : Nat) (f : Nat → BitVec 8) (bad : Bool) (x : BitVec 64) (w : World) (h : Wr c size n0 f bad w) (hn : n0 + n ≤ size) (hs : size ≤ 16777216) (hi : iswB n = true) (hn8 : n ≤ 8) (hx : x.toNat / 2 ^ (8 * n) = 0) :
    Calls Tryd.prog 52 #[.pointer (some ⟨c, 0, none⟩), .int .i64 (n : Int), .int .u64 (x.toNat : Int)] w fun e w' => e = .returned (.tuple #[]) ∧ Wr c size (n0 + n) (catF f n0 (byB x)) bad w' ∧ Below c w w' :=
  (wuint_okx c size n0 n f bad x w h hn hs hi hn8 hx).mono fun _ _ h => ⟨h.1, h.2.1, h.2.2.1⟩
theorem OwnB.rowAt {base b n cap : Nat} {e : TypeId} {g : Nat → Value} {w : World} (h : OwnB base e (.slice (some ⟨b, 0, none⟩) n cap) n g w) : RowAt b n g w := by
  rcases Nat.eq_zero_or_pos n with h0 | h0
  · subst h0
    rcases h.2 with ⟨h1, _⟩ | ⟨k, cap, cur, hv, _, hg, _⟩
    · cases h1
    · injection hv with hv
      injection hv with hv
      injection hv with hv
      subst hv
      exact ⟨fun j hj => by omega, fun j hj => by omega, (Array.getElem?_eq_some_iff.1 hg).1⟩
  · obtain ⟨k, c, hv, _, _, _, hR⟩ := h.lies h0
    injection hv with hv
    injection hv with hv
    injection hv with hv
    subst hv
    exact hR
/-- bytes, and zeros behind them -/
def padF (f : Nat → BitVec 8) (n : Nat) (j : Nat) : BitVec 8 := if j < n then f j else 0#8
set_option maxRecDepth 20000 in
set_option maxHeartbeats 2000000 in
theorem wdone_ok (c size n : Nat) (f : Nat → BitVec 8) (w : World) (h : Wr c size n f false w) (hn : n ≤ size) (hs : size ≤ 16777216) :
    Calls Tryd.prog 55 #[.pointer (some ⟨c, 0, none⟩)] w fun e w' => ∃ g, e = .returned (.tuple #[.slice (some ⟨g, 0, none⟩) size size, .int .i64 0]) ∧ w.heap.size ≤ g ∧ RowAt g size (yv (padF f n)) w' ∧ Ext w w' := by
  obtain ⟨v, hA, hO⟩ := h
  have e0 := hA.size
  have e2 := hA.bad
  obtain ⟨ov, cv, rfl⟩ := hO.bv.form
  replace hA := hideit hA
  replace hO := hideit hO
  have s0 : (0 : Int) ≤ (size : Int) := by omega
  go_enter Tryd.func55, Tryd.ntmps55
  go_upto_region 5 with (fail)
  refine wp_region_lit ?_
  refine wpList_run rfl (.pointer (some ⟨c, 0, none⟩)) (by simp [go_sem]) ?_
  simp only [Act.put, List.setIfInBounds_toArray, List.set_cons_zero, List.set_cons_succ]
  refine wpList_run rfl (.pointer (some ⟨c, 0, none⟩)) (by simp [go_sem]) ?_
  simp only [Act.put, List.setIfInBounds_toArray, List.set_cons_zero, List.set_cons_succ]
  refine wpList_run rfl (.pointer (some ⟨c, 0, none⟩)) (by simp [go_sem]) ?_
  simp only [Act.put, List.setIfInBounds_toArray, List.set_cons_zero, List.set_cons_succ]
  refine wpList_run rfl (.int .i64 (size : Int)) (by simp [go_sem, e0]) ?_
  simp only [Act.put, List.setIfInBounds_toArray, List.set_cons_zero, List.set_cons_succ]
  refine wpList_made w Tryd.underlying34 (by kernel_rfl) rfl (.tmp 14) (.tmp 14) rfl size rfl rfl (by omega) ?_
  intro w1 hO1 hE1
  have hA1 : Hid (WrAt c size (.slice ov n cv) false w1) := RowAt.carry hA.out hE1
  have hO2 := hideit (hO.out.ext hE1)
  replace hO1 := hideit hO1
  replace hE1 := hideit hE1
  clear e0 e2 hA hO
  have e1 := hA1.out.bytes
  simp only [Act.put, List.setIfInBounds_toArray, List.set_cons_zero, List.set_cons_succ]
  go_upto_region 6 with (fail)
  refine wp_region_lit ?_
  refine wpList_run rfl (.slice (some ⟨w.heap.size, 0, none⟩) size size) (by simp [go_sem]) ?_
  simp only [Act.put, List.setIfInBounds_toArray, List.set_cons_zero, List.set_cons_succ]
  refine wpList_run rfl (.pointer (some ⟨c, 0, none⟩)) (by simp [go_sem]) ?_
  simp only [Act.put, List.setIfInBounds_toArray, List.set_cons_zero, List.set_cons_succ]
  refine wpList_run rfl (.pointer (some ⟨c, 0, none⟩)) (by simp [go_sem]) ?_
  simp only [Act.put, List.setIfInBounds_toArray, List.set_cons_zero, List.set_cons_succ]
  refine wpList_run rfl (.pointer (some ⟨c, 1, none⟩)) (by simp [go_sem]) ?_
  simp only [Act.put, List.setIfInBounds_toArray, List.set_cons_zero, List.set_cons_succ]
  refine wpList_run rfl (.slice ov n cv) (by simp [go_sem, e1]) ?_
  simp only [Act.put, List.setIfInBounds_toArray, List.set_cons_zero, List.set_cons_succ]
  obtain ⟨g, hg⟩ : ∃ g, g = w.heap.size := ⟨_, rfl⟩
  rw [← hg] at hO1 ⊢
  have hgw : w.heap.size ≤ g := by omega
  have hR := hideit hO1.out.rowAt
  clear hO1 hg e1
  rcases hO2.out.bv with ⟨hv, rfl⟩ | ⟨a, cap, hv, hcap, hL⟩
  · injection hv with q1 q2 q3
    subst q1
    subst q3
    clear hO2
    have hcp := run_copy_none (P := Tryd.prog) w1 34 34 3 5 (some ⟨g, 0, none⟩) none size size 0 0 Tryd.underlying34 (by kernel_rfl) (Nat.zero_min _)
    refine wpList_run rfl (.int .i64 0) (by simp [go_sem, hcp]) ?_
    simp only [Act.put, List.setIfInBounds_toArray, List.set_cons_zero, List.set_cons_succ]
    go_wp2
    go_ret2
    exact ⟨g, rfl, hgw, hR.out.congr fun j hj => by simp only [yv]; unfold padF; rw [if_neg (by omega)], hE1.out⟩
  · injection hv with q1 q2 q3
    subst q1
    subst q3
    have hmin : n = Nat.min n size := by show n = min n size; omega
    refine wpList_copy_row rfl (.tmp 16) (.tmp 20) 34 34 rfl 5 Tryd.underlying34 (by kernel_rfl) g size _ hR.out 0 size size a n cv rfl rfl n (yv f) hmin (fun j hj => hL.1 j hj) (by omega) (fun _ _ => rfl) ?_
    have hR2 : Hid (RowAt g size (yv (padF f n)) (w1.setCells g 0 (row n (yv f)))) := (hR.out.part 0 n (yv f) (by omega)).congr fun j hj => by
      simp only [yv]
      unfold padF
      by_cases h1 : j < n
      · rw [if_pos (by omega), if_pos h1, Nat.sub_zero]
      · rw [if_neg (by omega), if_neg h1]
    have hE2 : Hid (Ext w (w1.setCells g 0 (row n (yv f)))) := below_setCells g hgw _ _ _ hE1.out
    clear hR hE1 hmin hL hO2 hA1
    generalize w1.setCells g 0 (row n (yv f)) = Y at *
    simp only [Act.put, List.setIfInBounds_toArray, List.set_cons_zero, List.set_cons_succ]
    go_wp2
    go_ret2
    exact ⟨g, rfl, hgw, hR2.out, hE2.out⟩
end Go.Proofs.YtedgopionpdfeaaDoor
namespace Go.Proofs.YtedgopionpdfeaaDoor
open Go.RowKit Go.BigFrame
/-- facts on the element's type: one cell, B bytes -/
structure ElemB (P : Program) (t e : TypeId) (B : Nat) : Prop where
  slice : P.underlying t = some (.slice e)
  info : ∃ i z, P.info? e = some i ∧ i.zero = some z ∧ i.size = 1 ∧ i.bytes = B ∧ z.cells.size = 1
theorem elem_b {P : Program} {t e : TypeId} {B : Nat} (hs : P.underlying t = some (.slice e)) (h1 : (P.info? e).map (·.size) = some 1) (h2 : (P.info? e).map (·.bytes) = some B) (h3 : ((P.info? e).bind (·.zero)).map (·.cells.size) = some 1) : ElemB P t e B := by
  refine ⟨hs, ?_⟩
  cases hi : P.info? e with
  | none => rw [hi] at h1; cases h1
  | some i =>
    rw [hi] at h1 h2 h3
    simp only [Option.map_some, Option.some.injEq, Option.bind_some] at h1 h2 h3
    cases hz : i.zero with
    | none => rw [hz] at h3; cases h3
    | some z =>
      rw [hz] at h3
      simp only [Option.map_some, Option.some.injEq] at h3
      exact ⟨i, z, rfl, hz, h1, h2, h3⟩
section
variable {base : Nat} {e : TypeId} {v : Value} {n B : Nat} {g g' : Nat → Value} {w w' : World}
/-- append of cells that lie somewhere -/
theorem wpList_growE {P : Program} {ops : Array Oper} {rest : List Oper} {o : Oper} {a : Act} {Q : Exit → Act → World → Prop} {t : TypeId} (E : ElemB P t e B) (hgd : o.guard = none) (s x : Operand)
    (ho : o.op = .call { callee := .builtin .append, args := #[s, x], argTypes := #[t, t] }) (hs : a.eval s = v) (hown : OwnB base e v n g w)
    (ad : Addr) (m c : Nat) (u f : Nat → Value) (hx : a.eval x = .slice (some ad) m c) (hl : LieAt ad m u w) (h1 : ∀ j, j < m → (u j).oneCell' = true) (hf1 : ∀ j, j < n → g j = f j) (hf2 : ∀ j, j < m → u j = f (n + j))
    (hbytes : (n + m) * B ≤ 140737488355328) (h63 : n + m ≤ 140737488355328) (hbase : base ≤ w.heap.size)
    (h : ∀ v' w', OwnB base e v' (n + m) f w' → w.grownBy w' v.ownBlock → wpList P ops Q rest (a.put o.dst v') w') : wpList P ops Q (o :: rest) a w := by
  obtain ⟨i, z, e1, e2, e3, e4, e5⟩ := E.info
  refine wpList_append_own w hgd s x t ho base e i z 1 B E.slice e1 e2 e3 e4 e5 (by decide) v n (row n g) hs hown ad m c (row m u) hx (by rw [row_length]; omega) (fun j w0 hj => ?_) (fun w0 hw0 => ?_) (by unfold maxLen; omega) hbytes hbase fun v' w' h2 h3 _ => h v' w' ?_ h3
  · obtain ⟨hj', rfl⟩ := row_some hj
    exact hl.1 j hj'
  · obtain ⟨j, hj, rfl⟩ := List.mem_map.1 hw0
    exact h1 j (by simpa using hj)
  · unfold OwnB
    rwa [row_append n m g u f hf1 hf2] at h2
theorem wpList_growE_none {P : Program} {ops : Array Oper} {rest : List Oper} {o : Oper} {a : Act} {Q : Exit → Act → World → Prop} {t : TypeId} (E : ElemB P t e B) (hgd : o.guard = none) (s x : Operand)
    (ho : o.op = .call { callee := .builtin .append, args := #[s, x], argTypes := #[t, t] }) (hs : a.eval s = v) (hown : OwnB base e v n g w) (hx : a.eval x = .slice none 0 0)
    (h : wpList P ops Q rest (a.put o.dst v) w) : wpList P ops Q (o :: rest) a w := by
  obtain ⟨i, z, e1, e2, e3, e4, e5⟩ := E.info
  exact wpList_append_own_none hgd s x t ho base e i 1 E.slice e1 v n (row n g) hs hown hx h
/-- it shrinks to nothing, and keeps its room -/
theorem OwnB.cut0 {b cap : Nat} (h : OwnB base e (.slice (some ⟨b, 0, none⟩) n cap) n g w) : OwnB base e (.slice (some ⟨b, 0, none⟩) 0 cap) 0 g' w := by
  rcases h.2 with ⟨h1, _⟩ | ⟨k, c, cur, hv, hb, hg, hc, hm, hs, ht⟩
  · cases h1
  · injection hv with q1 _ q3
    subst q3
    exact ⟨by simp [row], .inr ⟨k, cap, cur, by rw [q1], hb, hg, Nat.zero_le _, hm, hs, by simp [row]⟩⟩
end
/-- an append whose run is known -/
theorem wpList_appN {P : Program} {ops : Array Oper} {rest : List Oper} {o : Oper} {a : Act} {w : World} {Q : Exit → Act → World → Prop} (hgd : o.guard = none) (s x : Operand) (t u : TypeId) (ho : o.op = .call { callee := .builtin .append, args := #[s, x], argTypes := #[t, u] })
    (v y v' : Value) (w' : World) (hs : a.eval s = v) (hx : a.eval x = y) (hr : (Builtin.append_ #[t, u] o.type #[v, y]).run P w = .ok v' w') (h : wpList P ops Q rest (a.put o.dst v') w') : wpList P ops Q (o :: rest) a w := by
  refine wpList_plain hgd fun K hK => ?_
  unfold Oper.wp execOp
  simp only [ho, resolve, invoke, builtin, Sem.run_bind, Sem.run_pure, Result.andThen_ok, List.map_toArray, List.map_cons, List.map_nil, hs, hx, hr]
  exact hK _ _ h
theorem zeroCellsE (zv : Value) (m : Nat) : Builtin.zeroCells #[zv] m = (row m fun _ => zv).toArray := by
  apply Array.ext'
  simp only [Builtin.zeroCells, row]
  apply List.ext_getElem?
  intro i
  by_cases h : i < m
  · simp [h, Nat.mod_one]
  · simp [h]
end Go.Proofs.YtedgopionpdfeaaDoor
