/-
  The walk of RecordApart. How redos and blocks that came in read.
-/
import Derived.Test.YtedgopionpdfeaaDoorQ38
import Derived.Test.YtedgopionpdfeaaDoorQ37
import Derived.Test.YtedgopionpdfeaaDoorQ11
import Derived.Deep.Slices
namespace Go.Proofs.YtedgopionpdfeaaDoor
open Go.RowKit Go.BigFrame
set_option linter.unusedVariables false
theorem parse_yes (x : BitVec 64) (vb : Value) (m : Nat) (us : Nat → Value) (ls : Nat → Nat) (fs : Nat → Nat → BitVec 8) (w : World) (hT : TabC w) (hP : PL vb m us ls fs w) (h0 : 0 < m → BV (us 0) (ls 0) (fs 0) w) (hls : ∀ i, i < m → ls i ≤ 140737488355328) (hm : m ≤ 4398046511104) (hh : hasP x m ls fs) (ht : isTx x ls fs) : Calls Tryd.prog 12 #[.int .u64 (x.toNat : Int), vb] w fun e w' => ∃ v us', e = .returned (.tuple #[v, .int .i64 ((cP (fs 0) + 2 : Nat) : Int), .int .i64 0]) ∧ RDs w.heap.size v (cP (fs 0)) (bP (fs 0)) us' (fun i => ls (i + 1)) (unL ls fs) w' ∧ Ext w w' := by
  refine (parse_some x vb m us ls fs w hT hP h0 hls hm hh).mono fun e w' ⟨hX, h⟩ => ?_
  rcases h with ⟨_, v, us', he, hD⟩ | ⟨h, _⟩
  · exact ⟨v, us', he, hD, hX⟩
  · exact absurd ht h
theorem parse_not (x : BitVec 64) (vb : Value) (m : Nat) (us : Nat → Value) (ls : Nat → Nat) (fs : Nat → Nat → BitVec 8) (w : World) (hT : TabC w) (hP : PL vb m us ls fs w) (h0 : 0 < m → BV (us 0) (ls 0) (fs 0) w) (hls : ∀ i, i < m → ls i ≤ 140737488355328) (hm : m ≤ 4398046511104) (hh : ¬ (hasP x m ls fs ∧ isTx x ls fs)) : Calls Tryd.prog 12 #[.int .u64 (x.toNat : Int), vb] w fun e w' => e = .returned (.tuple #[.slice none 0 0, .int .i64 0, .int .i64 110]) ∧ Ext w w' := by
  by_cases h1 : hasP x m ls fs
  · refine (parse_some x vb m us ls fs w hT hP h0 hls hm h1).mono fun e w' ⟨hX, h⟩ => ?_
    rcases h with ⟨h, _⟩ | ⟨_, he⟩
    · exact absurd ⟨h1, h⟩ hh
    · exact ⟨he, hX⟩
  · exact parse_none x vb m us ls fs w hP h0 hls hm h1
/-- Parse tells OK or ErrFormat -/
theorem parse_code (x : BitVec 64) (vb : Value) (m : Nat) (us : Nat → Value) (ls : Nat → Nat) (fs : Nat → Nat → BitVec 8) (w : World) (hT : TabC w) (hP : PL vb m us ls fs w) (h0 : 0 < m → BV (us 0) (ls 0) (fs 0) w) (hls : ∀ i, i < m → ls i ≤ 140737488355328) (hm : m ≤ 4398046511104) : Calls Tryd.prog 12 #[.int .u64 (x.toNat : Int), vb] w fun e w' => ∃ v c r, e = .returned (.tuple #[v, c, .int .i64 r]) ∧ (((hasP x m ls fs ∧ isTx x ls fs) ∧ r = 0) ∨ (¬ (hasP x m ls fs ∧ isTx x ls fs) ∧ r = 110)) ∧ Ext w w' := by
  by_cases h : hasP x m ls fs ∧ isTx x ls fs
  · exact (parse_yes x vb m us ls fs w hT hP h0 hls hm h.1 h.2).mono fun e w' ⟨v, us', he, _, hX⟩ => ⟨_, _, _, he, .inl ⟨h, rfl⟩, hX⟩
  · exact (parse_not x vb m us ls fs w hT hP h0 hls hm h).mono fun e w' ⟨he, hX⟩ => ⟨_, _, _, he, .inr ⟨h, rfl⟩, hX⟩
/-- another seal: no transaction -/
theorem tx_no {x : BitVec 64} {n m : Nat} {bs : Nat → Int} {ls ls' : Nat → Nat} {fs fs' : Nat → Nat → BitVec 8} (hok : okT x n bs ls fs) (hl : ∀ i, i < n + 2 → ls' i = 512) (hf : ∀ i, i < n + 1 → fs' i = trF x (tmK ls fs n) n bs fs i) (j : Nat) (hj : j < 512) (hd : fs' (n + 1) j ≠ trF x (tmK ls fs n) n bs fs (n + 1) j) : ¬ (hasP x m ls' fs' ∧ isTx x ls' fs') := by
  rintro ⟨_, _, _, hs⟩
  have hmay := hok.1
  have hn := hmay.2.2.1
  have hlen : ∀ i, i < n → ls i = 512 := fun i hi => Classical.byContradiction fun h => hok.2 ⟨i, hi, h⟩
  have h0 : fs' 0 = planF x (tmK ls fs n) n bs := by
    rw [hf 0 (by omega)]
    unfold trF bkF
    rw [if_neg (by omega), if_pos rfl]
  have hc : cP (fs' 0) = n := by rw [h0, cP_plan _ _ _ _ hn]
  have hb : ∀ i, i < n → bP (fs' 0) i = bs i := fun i hi => by rw [h0, bP_plan _ _ _ _ i hi (hmay.2.2.2.2 i hi).1]
  have hu : ∀ i, i < n → unL ls' fs' i = fs i := fun i hi => by
    unfold unL
    have e1 : fs' (i + 1) = stF 512 (fs i) := by
      rw [hf (i + 1) (by omega)]
      unfold trF bkF
      rw [if_neg (by omega), if_neg (by omega), Nat.add_sub_cancel]
    rw [h0, tP_plan, hl (i + 1) (by omega), e1]
    exact unF_stF _ _ _ (by rw [tnB_tmK ls fs n hn i hi, hlen i hi])
  have htm : tmK (fun i => ls' (i + 1)) (unL ls' fs') n = tmK ls fs n := tmK_congr n fun i hi => by
    rw [hu i hi, hlen i hi]
    show like (ls' (i + 1)) _ = _
    rw [hl (i + 1) (by omega)]
  rw [hc, htm] at hs
  have := (of_decide_eq_true (hs (n + 1) (by omega))).2 j hj
  rw [trF_congr (fun i hi => hb i hi) (fun i hi => hu i hi) (n + 1) (by omega)] at this
  exact hd this.symm
theorem has_num {x y : BitVec 64} {n m : Nat} {bs : Nat → Int} {ls ls' : Nat → Nat} {fs fs' : Nat → Nat → BitVec 8} (h0 : fs' 0 = trF x (tmK ls fs n) n bs fs 0) (hh : hasP y m ls' fs') : y = x := by
  have e : fs' 0 = planF x (tmK ls fs n) n bs := by
    rw [h0]
    unfold trF bkF
    rw [if_neg (by omega), if_pos rfl]
  have := hh.2.2.1
  rw [e, nP_plan] at this
  exact this.symm
theorem x8_fact (a c : BitVec 8) : bits .xor .u8 (a.toNat : Int) (c.toNat : Int) = ((a ^^^ c).toNat : Int) := by
  rw [u8_xor_nat _ _ a.isLt c.isLt, BitVec.toNat_xor]
theorem lies_pl {B : Nat} {a : Addr} {m c : Nat} {us : Nat → Value} {fs : Nat → Nat → BitVec 8} {X : World} (h : BLs B (.slice (some a) m c) m us fs X) : LieAt a m us X := by
  rcases h.parts.1 with ⟨h1, _⟩ | ⟨a', c', h1, _, h3⟩
  · cases h1
  · injection h1 with h1
    injection h1 with h1
    subst h1
    exact h3
/-- a block's bytes, wherever they lie -/
def RowB (z : Nat) (f : Nat → BitVec 8) (X : World) : Prop := LieAt ⟨z, 0, none⟩ 512 (yv f) X
theorem RowB.other {z : Nat} {f : Nat → BitVec 8} {X : World} (h : RowB z f X) (p : Addr) (v : Value) (hp : p.block ≠ z) : RowB z f (X.setCell p v) := by
  refine ⟨fun j hj => ?_, by rw [World.size_setCell]; exact h.2⟩
  rw [World.cell?_setCell_other _ _ _ _ (fun e => hp (by rw [e, add_block]))]
  exact h.1 j hj
theorem RowB.bv {z cp : Nat} {f : Nat → BitVec 8} {X : World} (h : RowB z f X) (hc : 512 ≤ cp) : BV (.slice (some ⟨z, 0, none⟩) 512 cp) 512 f X := .inr ⟨_, cp, rfl, hc, h⟩
theorem rowb_of {B : Nat} {v : Value} {m j z cp : Nat} {us : Nat → Value} {fs : Nat → Nat → BitVec 8} {X : World} (h : BLs B v m us fs X) (hj : j < m) (he : us j = .slice (some ⟨z, 0, none⟩) 512 cp) : RowB z (fs j) X := by
  obtain ⟨z', cp', h1, _, h3, _⟩ := h.byt j hj
  rw [h1] at he
  injection he with he
  injection he with he
  injection he with he
  subst he
  exact h3
theorem tabc_set {X : World} (h : TabC X) (p : Addr) (v : Value) (hp : p.block ≠ 0) : TabC (X.setCell p v) := by
  refine ⟨fun j hj => ?_, by rw [World.size_setCell]; exact h.2⟩
  rw [World.cell?_setCell_other _ _ _ _ (fun e => hp (by rw [e]))]
  exact h.1 j hj
theorem add0 (g k : Nat) : (⟨g, 0, none⟩ : Addr).add k = ⟨g, k, none⟩ := by
  unfold Addr.add
  split
  · rename_i h0
    rw [h0]
  · simp
/-- a list's blocks, in memory below B, none of them g -/
def AllB (B g i : Nat) (us : Nat → Value) (F : Nat → Nat → BitVec 8) (X : World) : Prop := ∀ j, j < i → ∃ z cp, us j = .slice (some ⟨z, 0, none⟩) 512 cp ∧ 512 ≤ cp ∧ RowB z (F j) X ∧ z < B ∧ z ≠ g
theorem AllB.ext {B g i : Nat} {us : Nat → Value} {F : Nat → Nat → BitVec 8} {X Y : World} (h : AllB B g i us F X) (k : Ext X Y) : AllB B g i us F Y := fun j hj => by
  obtain ⟨z, cp, h1, h2, h3, h4⟩ := h j hj
  exact ⟨z, cp, h1, h2, h3.carry k, h4⟩
theorem AllB.set {B g i : Nat} {us : Nat → Value} {F : Nat → Nat → BitVec 8} {X : World} (h : AllB B g i us F X) (p : Addr) (v : Value) (hp : p.block = g ∨ B ≤ p.block) : AllB B g i us F (X.setCell p v) := fun j hj => by
  obtain ⟨z, cp, h1, h2, h3, h4, h5⟩ := h j hj
  exact ⟨z, cp, h1, h2, h3.other p v (by omega), h4, h5⟩
theorem all_pl {B g i k d dc gc : Nat} {us : Nat → Value} {F : Nat → Nat → BitVec 8} {f : Nat → BitVec 8} {X : World} (h : AllB B g i us F X) (hc : i ≤ gc) (hR : RowAt g i (fun j => if j = k then .slice (some ⟨d, 0, none⟩) 512 dc else us j) X) (hD : RowAt d 512 (yv f) X) (hdc : 512 ≤ dc) :
    PL (.slice (some ⟨g, 0, none⟩) i gc) i (fun j => if j = k then .slice (some ⟨d, 0, none⟩) 512 dc else us j) (fun _ => 512) (fun j => if j = k then f else F j) X ∧ ∀ j, j < i → BV (if j = k then .slice (some ⟨d, 0, none⟩) 512 dc else us j) 512 (if j = k then f else F j) X := by
  have key : ∀ j, j < i → BV (if j = k then .slice (some ⟨d, 0, none⟩) 512 dc else us j) 512 (if j = k then f else F j) X := fun j hj => by
    by_cases e : j = k
    · rw [if_pos e, if_pos e]
      exact .inr ⟨_, dc, rfl, hdc, RowAt.lie hD 512 (Nat.le_refl _)⟩
    · rw [if_neg e, if_neg e]
      obtain ⟨z, cp, h1, h2, h3, _⟩ := h j hj
      rw [h1]
      exact h3.bv h2
  exact ⟨⟨.inr ⟨_, gc, rfl, hc, fun j hj => by rw [add0]; exact hR.1 j hj⟩, fun j hj => (key j hj).pv⟩, key⟩
theorem xor_ne (a c : BitVec 8) (h : c ≠ 0#8) : a ^^^ c ≠ a := fun e => h (by
  have : a ^^^ (a ^^^ c) = a ^^^ a := by rw [e]
  rwa [← BitVec.xor_assoc, BitVec.xor_self, BitVec.zero_xor] at this)
theorem bit8 (r : Nat) (h : r < 8) : ∃ c : BitVec 8, c ≠ 0#8 ∧ IntKind.u8.wrap (2 ^ min r 8) = (c.toNat : Int) ∧ IntKind.u8.wrap (2 ^ r) = (c.toNat : Int) := by
  refine ⟨BitVec.ofNat 8 (2 ^ r), ?_, ?_, ?_⟩ <;> (rcases (by omega : r = 0 ∨ r = 1 ∨ r = 2 ∨ r = 3 ∨ r = 4 ∨ r = 5 ∨ r = 6 ∨ r = 7) with rfl | rfl | rfl | rfl | rfl | rfl | rfl | rfl <;> decide)
/-- a copy of a list of blocks -/
theorem wpList_gl {ops : Array Oper} {rest : List Oper} {o : Oper} {a : Act} {Q : Exit → Act → World → Prop} {X : World} (hgd : o.guard = none) (s x : Operand)
    (ho : o.op = .call { callee := .builtin .append, args := #[s, x], argTypes := #[24, 24] }) (hs : a.eval s = .slice (some ⟨X.heap.size, 0, none⟩) 0 0) (ad : Addr) (m c : Nat) (us : Nat → Value) (hx : a.eval x = .slice (some ad) m c) (hl : LieAt ad m us (X.alloc (.cells #[] 34))) (h1 : ∀ j, j < m → (us j).oneCell' = true) (hm0 : 0 < m) (hm : m ≤ 1000000)
    (h : ∀ g cap Y, RowAt g m us Y → X.heap.size ≤ g → m ≤ cap → Ext X Y → wpList Tryd.prog ops Q rest (a.put o.dst (.slice (some ⟨g, 0, none⟩) m cap)) Y) : wpList Tryd.prog ops Q (o :: rest) a (X.alloc (.cells #[] 34)) := by
  have hX1 : Ext X (X.alloc (.cells #[] 34)) := (Below.refl _ _).alloc (Nat.le_refl _) _
  refine wpList_growE (n := 0) (base := X.heap.size) elem24 hgd s x ho hs (own_empty X X.heap.size 34 us (Nat.le_refl _)) ad m c us us hx hl h1 (fun j hj => rfl) (fun j hj => by rw [Nat.zero_add]) (by omega) (by omega) (Below.size hX1) ?_
  intro v' Y hO hg
  rw [Nat.zero_add] at hO
  obtain ⟨g, cap, rfl, hgb, hc, _, hR⟩ := hO.lies hm0
  exact h g cap Y hR hgb hc (Below.trans hX1 (below_grown (Below.size hX1) hg fun k hk => ((own_empty X X.heap.size 34 us (Nat.le_refl _)).lt k hk).1))
set_option maxRecDepth 20000 in
set_option maxHeartbeats 4000000 in
theorem apart_no (x y : BitVec 64) (v0 : Value) (n : Nat) (bs : Nat → Int) (us0 : Nat → Value) (ls : Nat → Nat) (fs : Nat → Nat → BitVec 8) (p q : Int) (w : World) (hL : RLs v0 n bs us0 ls fs w) (hbi : ∀ i, i < n → okI (bs i)) (hn : n ≤ 4398046511104) (hT : TabC w) (hok : ¬ okT x n bs ls fs) : Calls Tryd.prog 7 #[.int .u64 (x.toNat : Int), v0, .int .u64 (y.toNat : Int), .int .i64 p, .int .i64 q] w fun e w' => e = .returned (.bool true) ∧ Ext w w' := by
  obtain ⟨lo, lc, rfl⟩ := hL.form
  replace hL := hideit hL
  replace hT := hideit hT
  replace hbi := hideit hbi
  replace hok := hideit hok
  replace hn := hideit hn
  have hw0 : Hid (0 < w.heap.size) := hT.out.2
  have hE := hideit (Ext.refl w)
  go_enter Tryd.func7, Tryd.ntmps7
  go_upto_region 1 with (fail)
  refine wp_region_lit ?_
  refine wpList_run rfl (.int .u64 (x.toNat : Int)) (by simp [go_sem]) ?_
  simp only [Act.put, List.setIfInBounds_toArray, List.set_cons_zero, List.set_cons_succ]
  refine wpList_run rfl (.slice lo n lc) (by simp [go_sem]) ?_
  simp only [Act.put, List.setIfInBounds_toArray, List.set_cons_zero, List.set_cons_succ]
  refine wpList_call rfl (by simp [go_sem]) ((blocks_no x (.slice lo n lc) n bs us0 ls fs w hL.out hbi.out hn.out hok.out).mono ?_)
  rintro e y1 ⟨rfl, hX2⟩
  refine ⟨_, rfl, ?_⟩
  simp only [Act.put, List.setIfInBounds_toArray, List.set_cons_zero, List.set_cons_succ]
  replace hL := hideit (hL.out.ext hX2)
  replace hT := hideit (hT.out.ext hX2)
  replace hE := hideit (Ext.trans hE.out hX2)

  clear hX2
  refine wpList_run rfl (.tuple #[.slice none 0 0, .int .i64 1]) (by simp [go_sem]) ?_
  simp only [Act.put, List.setIfInBounds_toArray, List.set_cons_zero, List.set_cons_succ]
  refine wpList_run rfl (.slice none 0 0) (by simp [go_sem]) ?_
  simp only [Act.put, List.setIfInBounds_toArray, List.set_cons_zero, List.set_cons_succ]
  refine wpList_run rfl (.int .i64 1) (by simp [go_sem]) ?_
  simp only [Act.put, List.setIfInBounds_toArray, List.set_cons_zero, List.set_cons_succ]
  refine wpList_run rfl (.slice none 0 0) (by simp [go_sem]) ?_
  simp only [Act.put, List.setIfInBounds_toArray, List.set_cons_zero, List.set_cons_succ]
  refine wpList_run rfl (.int .i64 1) (by simp [go_sem]) ?_
  simp only [Act.put, List.setIfInBounds_toArray, List.set_cons_zero, List.set_cons_succ]
  go_upto_region 2 with (fail)
  refine wp_region_lit ?_
  refine wpList_call rfl (by simp [go_sem]) ((lives_any y1 hT.out).mono ?_)
  rintro e y3 ⟨rfl, hX4⟩
  refine ⟨_, rfl, ?_⟩
  simp only [Act.put, List.setIfInBounds_toArray, List.set_cons_zero, List.set_cons_succ]
  replace hL := hideit (hL.out.ext hX4)
  replace hT := hideit (hT.out.ext hX4)
  replace hE := hideit (Ext.trans hE.out hX4)

  clear hX4
  refine wpList_run rfl (.bool false) (by simp [go_sem]) ?_
  simp only [Act.put, List.setIfInBounds_toArray, List.set_cons_zero, List.set_cons_succ]
  go_upto_region 4 with (fail)
  refine wp_region_lit ?_
  refine wpList_run rfl (.int .i64 1) (by simp [go_sem]) ?_
  simp only [Act.put, List.setIfInBounds_toArray, List.set_cons_zero, List.set_cons_succ]
  refine wpList_run rfl (.bool true) (by simp [go_sem]) ?_
  simp only [Act.put, List.setIfInBounds_toArray, List.set_cons_zero, List.set_cons_succ]
  go_upto_region 5 with (fail)
  refine wp_region_lit ?_
  refine wpList_run rfl (.slice none 0 0) (by simp [go_sem]) ?_
  simp only [Act.put, List.setIfInBounds_toArray, List.set_cons_zero, List.set_cons_succ]
  refine wpList_run rfl (.int .i64 0) (by simp [go_sem]) ?_
  simp only [Act.put, List.setIfInBounds_toArray, List.set_cons_zero, List.set_cons_succ]
  refine wpList_run rfl (.bool true) (by simp [go_sem]) ?_
  simp only [Act.put, List.setIfInBounds_toArray, List.set_cons_zero, List.set_cons_succ]
  refine wpList_run rfl (.bool true) (by simp [go_sem]) ?_
  simp only [Act.put, List.setIfInBounds_toArray, List.set_cons_zero, List.set_cons_succ]
  refine wpList_runW rfl (.int .i64 1) (by simp [go_sem]) ?_
  simp only [Act.put, List.setIfInBounds_toArray, List.set_cons_zero, List.set_cons_succ]
  refine wpList_runW rfl (.bool true) (by simp [go_sem]) ?_
  simp only [Act.put, List.setIfInBounds_toArray, List.set_cons_zero, List.set_cons_succ]
  refine wpList_run rfl (.bool true) (by simp [go_sem]) ?_
  simp only [Act.put, List.setIfInBounds_toArray, List.set_cons_zero, List.set_cons_succ]
  refine wpList_run rfl (.bool true) (by simp [go_sem]) ?_
  simp only [Act.put, List.setIfInBounds_toArray, List.set_cons_zero, List.set_cons_succ]
  go_wp2
  go_ret
  exact ⟨rfl, hE.out⟩
set_option maxRecDepth 20000 in
set_option maxHeartbeats 4000000 in
theorem apart_ok (x y : BitVec 64) (v0 : Value) (n : Nat) (bs : Nat → Int) (us0 : Nat → Value) (ls : Nat → Nat) (fs : Nat → Nat → BitVec 8) (p q : Int) (w : World) (hL : RLs v0 n bs us0 ls fs w) (hbi : ∀ i, i < n → okI (bs i)) (hn : n ≤ 4398046511104) (hT : TabC w) (hok : okT x n bs ls fs) : Calls Tryd.prog 7 #[.int .u64 (x.toNat : Int), v0, .int .u64 (y.toNat : Int), .int .i64 p, .int .i64 q] w fun e w' => e = .returned (.bool true) ∧ Ext w w' := by
  obtain ⟨lo, lc, rfl⟩ := hL.form
  replace hL := hideit hL
  replace hT := hideit hT
  replace hbi := hideit hbi
  replace hok := hideit hok
  replace hn := hideit hn
  have hw0 : Hid (0 < w.heap.size) := hT.out.2
  have hn1 : 1 ≤ n := hok.out.1.2.1
  have hn64 : n ≤ 64 := hok.out.1.2.2.1
  obtain ⟨F, hF⟩ : ∃ F, F = trF x (tmK ls fs n) n bs fs := ⟨_, rfl⟩
  replace hF := hideit hF
  obtain ⟨m, hm⟩ : ∃ m, m = n + 2 := ⟨_, rfl⟩
  have e44 : IntKind.i64.wrap ((n : Int) + 2) = (m : Int) := by rw [IntKind.wrap_i64]; omega
  have n0 : ¬ n = 0 := by omega
  have m3 : 3 ≤ m ∧ m ≤ 66 := by omega
  replace hm := hideit hm
  replace hn1 := hideit hn1
  replace hn64 := hideit hn64
  replace m3 := hideit m3
  have hE := hideit (Ext.refl w)
  go_enter Tryd.func7, Tryd.ntmps7
  go_upto_region 1 with (fail)
  refine wp_region_lit ?_
  refine wpList_run rfl (.int .u64 (x.toNat : Int)) (by simp [go_sem]) ?_
  simp only [Act.put, List.setIfInBounds_toArray, List.set_cons_zero, List.set_cons_succ]
  refine wpList_run rfl (.slice lo n lc) (by simp [go_sem]) ?_
  simp only [Act.put, List.setIfInBounds_toArray, List.set_cons_zero, List.set_cons_succ]
  refine wpList_call rfl (by simp [go_sem]) ((blocks_ok x (.slice lo n lc) n bs us0 ls fs w hL.out hbi.out hn.out hT.out hok.out).mono ?_)
  rintro e w1 ⟨v, us, rfl, hB, hX1⟩
  refine ⟨_, rfl, ?_⟩
  simp only [Act.put, List.setIfInBounds_toArray, List.set_cons_zero, List.set_cons_succ]
  replace hL := hideit (hL.out.ext hX1)
  replace hT := hideit (hT.out.ext hX1)
  replace hE := hideit (Ext.trans hE.out hX1)
  rw [← hF.out, ← hm.out] at hB
  obtain ⟨vo, vc, rfl⟩ := hB.form
  obtain ⟨a, rfl, _⟩ := hB.pl.at 0 (by have := m3.out; omega)
  have hus : Hid (∀ i, i < m → ∃ z cp, us i = .slice (some ⟨z, 0, none⟩) 512 cp) := fun i hi => by
    obtain ⟨z, cp, h, _⟩ := hB.byt i hi
    exact ⟨z, cp, h⟩
  replace hB := hideit hB
  clear hX1
  refine wpList_run rfl (.tuple #[.slice (some a) m vc, .int .i64 0]) (by simp [go_sem]) ?_
  simp only [Act.put, List.setIfInBounds_toArray, List.set_cons_zero, List.set_cons_succ]
  refine wpList_run rfl (.slice (some a) m vc) (by simp [go_sem]) ?_
  simp only [Act.put, List.setIfInBounds_toArray, List.set_cons_zero, List.set_cons_succ]
  refine wpList_run rfl (.int .i64 0) (by simp [go_sem]) ?_
  simp only [Act.put, List.setIfInBounds_toArray, List.set_cons_zero, List.set_cons_succ]
  refine wpList_run rfl (.slice (some a) m vc) (by simp [go_sem]) ?_
  simp only [Act.put, List.setIfInBounds_toArray, List.set_cons_zero, List.set_cons_succ]
  refine wpList_run rfl (.int .i64 0) (by simp [go_sem]) ?_
  simp only [Act.put, List.setIfInBounds_toArray, List.set_cons_zero, List.set_cons_succ]
  go_upto_region 2 with (fail)
  refine wp_region_lit ?_
  refine wpList_call rfl (by simp [go_sem]) ((lives_any w1 hT.out).mono ?_)
  rintro e y1 ⟨rfl, hX2⟩
  refine ⟨_, rfl, ?_⟩
  simp only [Act.put, List.setIfInBounds_toArray, List.set_cons_zero, List.set_cons_succ]
  replace hL := hideit (hL.out.ext hX2)
  replace hT := hideit (hT.out.ext hX2)
  replace hB := hideit (hB.out.ext hX2)
  replace hE := hideit (Ext.trans hE.out hX2)

  clear hX2
  refine wpList_run rfl (.bool false) (by simp [go_sem]) ?_
  simp only [Act.put, List.setIfInBounds_toArray, List.set_cons_zero, List.set_cons_succ]
  go_upto_region 4 with (fail)
  refine wp_region_lit ?_
  refine wpList_run rfl (.int .i64 0) (by simp [go_sem]) ?_
  simp only [Act.put, List.setIfInBounds_toArray, List.set_cons_zero, List.set_cons_succ]
  refine wpList_run rfl (.bool false) (by simp [go_sem]) ?_
  simp only [Act.put, List.setIfInBounds_toArray, List.set_cons_zero, List.set_cons_succ]
  go_upto_region 6 with (fail)
  refine wp_region_lit ?_
  refine wpList_run rfl (.slice (some a) m vc) (by simp [go_sem]) ?_
  simp only [Act.put, List.setIfInBounds_toArray, List.set_cons_zero, List.set_cons_succ]
  refine wpList_run rfl (.int .i64 (m : Int)) (by simp [go_sem]) ?_
  simp only [Act.put, List.setIfInBounds_toArray, List.set_cons_zero, List.set_cons_succ]
  refine wpList_run rfl (.slice lo n lc) (by simp [go_sem]) ?_
  simp only [Act.put, List.setIfInBounds_toArray, List.set_cons_zero, List.set_cons_succ]
  refine wpList_run rfl (.int .i64 (n : Int)) (by simp [go_sem]) ?_
  simp only [Act.put, List.setIfInBounds_toArray, List.set_cons_zero, List.set_cons_succ]
  refine wpList_run rfl (.int .i64 (m : Int)) (by simp [go_sem, e44]) ?_
  simp only [Act.put, List.setIfInBounds_toArray, List.set_cons_zero, List.set_cons_succ]
  refine wpList_run rfl (.bool false) (by simp [go_sem]) ?_
  simp only [Act.put, List.setIfInBounds_toArray, List.set_cons_zero, List.set_cons_succ]
  refine wpList_run rfl (.bool false) (by simp [go_sem]) ?_
  simp only [Act.put, List.setIfInBounds_toArray, List.set_cons_zero, List.set_cons_succ]
  refine wpList_runW rfl (.slice lo n lc) (by simp [go_sem]) ?_
  simp only [Act.put, List.setIfInBounds_toArray, List.set_cons_zero, List.set_cons_succ]
  refine wpList_runW rfl (.int .i64 (n : Int)) (by simp [go_sem]) ?_
  simp only [Act.put, List.setIfInBounds_toArray, List.set_cons_zero, List.set_cons_succ]
  refine wpList_runW rfl (.bool false) (by simp [go_sem, n0]) ?_
  simp only [Act.put, List.setIfInBounds_toArray, List.set_cons_zero, List.set_cons_succ]
  refine wpList_run rfl (.bool false) (by simp [go_sem]) ?_
  simp only [Act.put, List.setIfInBounds_toArray, List.set_cons_zero, List.set_cons_succ]
  go_upto_region 8 with (fail)
  refine wp_region_lit ?_
  refine wpList_run rfl (.int .i64 0) (by simp [go_sem]) ?_
  simp only [Act.put, List.setIfInBounds_toArray, List.set_cons_zero, List.set_cons_succ]
  clear e44 n0
  have hz0 := hE
  have hB0 := hB
  have hT0 := hT
  obtain ⟨z0, hz⟩ : ∃ z, z = y1 := ⟨_, rfl⟩
  rw [← hz] at hz0 hB0 hT0 ⊢
  go_wp2
  go_loopw [13] (fun i X => ∃ k : Nat, k ≤ m ∧ i = .int .i64 (k : Int) ∧ Ext z0 X) (fun i _ => 66 - (intOf i).toNat)
  case atStart => exact ⟨0, Nat.zero_le _, rfl, by rw [hz]; exact Ext.refl _⟩
  case round =>
    obtain ⟨i, hi, rfl, hX⟩ := hrel
    clear hE hB hT hL
    by_cases hlt : i < m
    · have i1 : (i : Int) < (m : Int) := by omega
      have ek : IntKind.i64.wrap ((i : Int) + 1) = ((i + 1 : Nat) : Int) := by have := m3.out; rw [IntKind.wrap_i64]; omega
      obtain ⟨a', ha, hel⟩ := (hB0.out.ext hX).pl.at i hlt
      injection ha with ha
      subst ha
      obtain ⟨z, cp, hzu⟩ := hus.out i hlt
      rw [hzu] at hel
      clear hzu
      replace hX := hideit hX
      replace hlt := hideit hlt
      go_upto_region 9 with (fail)
      refine wp_region_lit ?_
      refine wpList_run rfl (.int .i64 (i : Int)) (by simp [go_sem]) ?_
      simp only [Act.put, List.setIfInBounds_toArray, List.set_cons_zero, List.set_cons_succ]
      refine wpList_run rfl (.slice (some a) m vc) (by simp [go_sem]) ?_
      simp only [Act.put, List.setIfInBounds_toArray, List.set_cons_zero, List.set_cons_succ]
      refine wpList_run rfl (.int .i64 (m : Int)) (by simp [go_sem]) ?_
      simp only [Act.put, List.setIfInBounds_toArray, List.set_cons_zero, List.set_cons_succ]
      refine wpList_run rfl (.bool true) (by simp [go_sem, i1]) ?_
      simp only [Act.put, List.setIfInBounds_toArray, List.set_cons_zero, List.set_cons_succ]
      go_upto_region 11 with (fail)
      refine wp_region_lit ?_
      refine wpList_run rfl (.slice (some a) m vc) (by simp [go_sem]) ?_
      simp only [Act.put, List.setIfInBounds_toArray, List.set_cons_zero, List.set_cons_succ]
      refine wpList_run rfl (.int .i64 (i : Int)) (by simp [go_sem]) ?_
      simp only [Act.put, List.setIfInBounds_toArray, List.set_cons_zero, List.set_cons_succ]
      refine wpList_run rfl (.pointer (some (a.add i))) (by simp [go_sem, i1]) ?_
      simp only [Act.put, List.setIfInBounds_toArray, List.set_cons_zero, List.set_cons_succ]
      refine wpList_run rfl (.slice (some ⟨z, 0, none⟩) 512 cp) (by simp [go_sem, hel]) ?_
      simp only [Act.put, List.setIfInBounds_toArray, List.set_cons_zero, List.set_cons_succ]
      refine wpList_run rfl (.int .i64 512) (by simp [go_sem]) ?_
      simp only [Act.put, List.setIfInBounds_toArray, List.set_cons_zero, List.set_cons_succ]
      refine wpList_run rfl (.bool false) (by simp [go_sem]) ?_
      simp only [Act.put, List.setIfInBounds_toArray, List.set_cons_zero, List.set_cons_succ]
      go_upto_region 10 with (fail)
      refine wp_region_lit ?_
      refine wpList_run rfl (.int .i64 (i : Int)) (by simp [go_sem]) ?_
      simp only [Act.put, List.setIfInBounds_toArray, List.set_cons_zero, List.set_cons_succ]
      refine wpList_run rfl (.int .i64 ((i + 1 : Nat) : Int)) (by simp [go_sem, ek]) ?_
      simp only [Act.put, List.setIfInBounds_toArray, List.set_cons_zero, List.set_cons_succ]
      refine wpList_run rfl (.int .i64 ((i + 1 : Nat) : Int)) (by simp [go_sem]) ?_
      simp only [Act.put, List.setIfInBounds_toArray, List.set_cons_zero, List.set_cons_succ]
      go_wp2
      refine ⟨⟨i + 1, by have := hlt.out; omega, rfl, hX.out⟩, by have := hlt.out; have := m3.out; simp [intOf]; omega⟩
    · obtain rfl : i = m := by omega
      have i1 : ¬ (i : Int) < (i : Int) := by omega
      have hB := hideit (hB0.out.ext hX)
      have hT := hideit (hT0.out.ext hX)
      replace hX := hideit (Ext.trans hz0.out hX)
      clear hB0 hT0 hz0 hz
      go_upto_region 9 with (fail)
      refine wp_region_lit ?_
      refine wpList_run rfl (.int .i64 (i : Int)) (by simp [go_sem]) ?_
      simp only [Act.put, List.setIfInBounds_toArray, List.set_cons_zero, List.set_cons_succ]
      refine wpList_run rfl (.slice (some a) i vc) (by simp [go_sem]) ?_
      simp only [Act.put, List.setIfInBounds_toArray, List.set_cons_zero, List.set_cons_succ]
      refine wpList_run rfl (.int .i64 (i : Int)) (by simp [go_sem]) ?_
      simp only [Act.put, List.setIfInBounds_toArray, List.set_cons_zero, List.set_cons_succ]
      refine wpList_run rfl (.bool false) (by simp [go_sem, i1]) ?_
      simp only [Act.put, List.setIfInBounds_toArray, List.set_cons_zero, List.set_cons_succ]
      obtain ⟨bb, hbb⟩ : ∃ c : Bool, c = decide (y = x) := ⟨_, rfl⟩
      have hy : Hid ((bb = true ∧ y = x) ∨ (bb = false ∧ ¬ (y.toNat : Int) = (x.toNat : Int))) := hideit (by
        by_cases e : y = x
        · exact .inl ⟨by rw [hbb]; exact decide_eq_true e, e⟩
        · exact .inr ⟨by rw [hbb]; exact decide_eq_false e, fun h => e (BitVec.eq_of_toNat_eq (by omega))⟩)
      clear hbb
      go_upto_region 13 with (fail)
      refine wp_region_lit ?_
      refine wpList_run rfl (.int .u64 (y.toNat : Int)) (by simp [go_sem]) ?_
      simp only [Act.put, List.setIfInBounds_toArray, List.set_cons_zero, List.set_cons_succ]
      refine wpList_run rfl (.slice (some a) i vc) (by simp [go_sem]) ?_
      simp only [Act.put, List.setIfInBounds_toArray, List.set_cons_zero, List.set_cons_succ]
      refine wpList_call rfl (by simp [go_sem]) ((parse_code y (.slice (some a) i vc) i us (fun _ => 512) F wr hT.out hB.out.pl (fun _ => (hB.out.parts.2 0 (by have := m3.out; omega))) (fun _ _ => by decide) (by have := m3.out; omega)).mono ?_)
      rintro e y1 ⟨pv, pc, r1, rfl, hr1, hX1⟩
      refine ⟨_, rfl, ?_⟩
      simp only [Act.put, List.setIfInBounds_toArray, List.set_cons_zero, List.set_cons_succ]
      replace hB := hideit (hB.out.ext hX1)
      replace hT := hideit (hT.out.ext hX1)
      replace hX := hideit (Ext.trans hX.out hX1)
      have hr : Hid ((bb = true ∧ r1 = 0) ∨ (bb = false ∧ r1 = 110)) := hideit (by
        rcases hy.out with ⟨h1, h2⟩ | ⟨h1, h2⟩
        · rcases hr1 with ⟨_, h⟩ | ⟨h, _⟩
          · exact .inl ⟨h1, h⟩
          · have tb := tx_back (m := i) (ls' := fun _ => 512) (fs' := F) hok.out (by have := hm.out; omega) (fun _ _ => rfl) (fun j _ => by rw [hF.out])
            rw [h2] at h
            exact absurd ⟨tb.1, tb.2.1⟩ h
        · rcases hr1 with ⟨⟨h, _⟩, _⟩ | ⟨_, h⟩
          · exact absurd (by rw [has_num (by rw [hF.out]) h]) h2
          · exact .inr ⟨h1, h⟩)
      clear hr1 hX1
      refine wpList_run rfl (.tuple #[pv, pc, .int .i64 (r1)]) (by simp [go_sem]) ?_
      simp only [Act.put, List.setIfInBounds_toArray, List.set_cons_zero, List.set_cons_succ]
      refine wpList_run rfl (pv) (by simp [go_sem]) ?_
      simp only [Act.put, List.setIfInBounds_toArray, List.set_cons_zero, List.set_cons_succ]
      refine wpList_run rfl (pc) (by simp [go_sem]) ?_
      simp only [Act.put, List.setIfInBounds_toArray, List.set_cons_zero, List.set_cons_succ]
      refine wpList_run rfl (.int .i64 (r1)) (by simp [go_sem]) ?_
      simp only [Act.put, List.setIfInBounds_toArray, List.set_cons_zero, List.set_cons_succ]
      refine wpList_run rfl (pv) (by simp [go_sem]) ?_
      simp only [Act.put, List.setIfInBounds_toArray, List.set_cons_zero, List.set_cons_succ]
      refine wpList_run rfl (pc) (by simp [go_sem]) ?_
      simp only [Act.put, List.setIfInBounds_toArray, List.set_cons_zero, List.set_cons_succ]
      refine wpList_run rfl (.int .i64 (r1)) (by simp [go_sem]) ?_
      simp only [Act.put, List.setIfInBounds_toArray, List.set_cons_zero, List.set_cons_succ]
      go_upto_region 14 with (fail)
      refine wp_region_lit ?_
      refine wpList_run rfl (.int .i64 (r1)) (by simp [go_sem]) ?_
      simp only [Act.put, List.setIfInBounds_toArray, List.set_cons_zero, List.set_cons_succ]
      refine wpList_run rfl (.bool bb) ((by rcases hr.out with ⟨h1, h2⟩ | ⟨h1, h2⟩ <;> subst h1 <;> subst h2 <;> simp [go_sem])) ?_
      simp only [Act.put, List.setIfInBounds_toArray, List.set_cons_zero, List.set_cons_succ]
      refine wpList_run rfl (.int .u64 (y.toNat : Int)) (by simp [go_sem]) ?_
      simp only [Act.put, List.setIfInBounds_toArray, List.set_cons_zero, List.set_cons_succ]
      refine wpList_run rfl (.int .u64 (x.toNat : Int)) (by simp [go_sem]) ?_
      simp only [Act.put, List.setIfInBounds_toArray, List.set_cons_zero, List.set_cons_succ]
      refine wpList_run rfl (.bool bb) ((by rcases hy.out with ⟨h1, h2⟩ | ⟨h1, h2⟩ <;> subst h1 <;> simp [go_sem, h2])) ?_
      simp only [Act.put, List.setIfInBounds_toArray, List.set_cons_zero, List.set_cons_succ]
      refine wpList_run rfl (.bool false) (by simp [go_sem]) ?_
      simp only [Act.put, List.setIfInBounds_toArray, List.set_cons_zero, List.set_cons_succ]
      clear hy hr
      have mi : ¬ i = 0 := by have := m3.out; omega
      have tl := Int.tmod_lt_of_pos p (b := (i : Int)) (by have := m3.out; omega)
      have tg := Int.lt_tmod_of_pos p (b := (i : Int)) (by have := m3.out; omega)
      have ql := Int.tmod_lt_of_pos q (b := 4096) (by decide)
      have qg := Int.lt_tmod_of_pos q (b := 4096) (by decide)
      obtain ⟨pz, hpz⟩ : ∃ z, z = p.tmod (i : Int) := ⟨_, rfl⟩
      obtain ⟨qz, hqz⟩ : ∃ z, z = q.tmod 4096 := ⟨_, rfl⟩
      rw [← hpz] at tl tg
      rw [← hqz] at ql qg
      have hpz' := hpz.symm
      have hqz' := hqz.symm
      clear hpz hqz
      go_upto_region 16 with (fail)
      refine wp_region_lit ?_
      refine wpList_run rfl (.int .i64 (p)) (by simp [go_sem]) ?_
      simp only [Act.put, List.setIfInBounds_toArray, List.set_cons_zero, List.set_cons_succ]
      refine wpList_run rfl (.slice (some a) i vc) (by simp [go_sem]) ?_
      simp only [Act.put, List.setIfInBounds_toArray, List.set_cons_zero, List.set_cons_succ]
      refine wpList_run rfl (.int .i64 (i : Int)) (by simp [go_sem]) ?_
      simp only [Act.put, List.setIfInBounds_toArray, List.set_cons_zero, List.set_cons_succ]
      refine wpList_run rfl (.int .i64 (pz)) (by simp [go_sem, mi, hpz']) ?_
      simp only [Act.put, List.setIfInBounds_toArray, List.set_cons_zero, List.set_cons_succ]
      refine wpList_run rfl (.int .i64 (pz)) (by simp [go_sem]) ?_
      simp only [Act.put, List.setIfInBounds_toArray, List.set_cons_zero, List.set_cons_succ]
      clear hpz' mi
      by_cases pn : pz < 0
      · by_cases qn : qz < 0
        · obtain ⟨k, hk⟩ : ∃ k : Nat, (k : Int) = pz + (i : Int) := ⟨(pz + (i : Int)).toNat, by omega⟩
          have hki : Hid (k < i) := hideit (by omega)
          go_upto_region 17 with (fail)
          refine wp_region_lit ?_
          refine wpList_run rfl (.int .i64 (pz)) (by simp [go_sem]) ?_
          simp only [Act.put, List.setIfInBounds_toArray, List.set_cons_zero, List.set_cons_succ]
          refine wpList_run rfl (.bool true) (by simp [go_sem, pn]) ?_
          simp only [Act.put, List.setIfInBounds_toArray, List.set_cons_zero, List.set_cons_succ]
          have e85 : IntKind.i64.wrap (pz + (i : Int)) = (k : Int) := by have := m3.out; rw [IntKind.wrap_i64]; omega
          go_upto_region 18 with (fail)
          refine wp_region_lit ?_
          refine wpList_run rfl (.int .i64 (pz)) (by simp [go_sem]) ?_
          simp only [Act.put, List.setIfInBounds_toArray, List.set_cons_zero, List.set_cons_succ]
          refine wpList_run rfl (.slice (some a) i vc) (by simp [go_sem]) ?_
          simp only [Act.put, List.setIfInBounds_toArray, List.set_cons_zero, List.set_cons_succ]
          refine wpList_run rfl (.int .i64 (i : Int)) (by simp [go_sem]) ?_
          simp only [Act.put, List.setIfInBounds_toArray, List.set_cons_zero, List.set_cons_succ]
          refine wpList_run rfl (.int .i64 (k : Int)) (by simp [go_sem, e85]) ?_
          simp only [Act.put, List.setIfInBounds_toArray, List.set_cons_zero, List.set_cons_succ]
          refine wpList_run rfl (.int .i64 (k : Int)) (by simp [go_sem]) ?_
          simp only [Act.put, List.setIfInBounds_toArray, List.set_cons_zero, List.set_cons_succ]
          clear e85
          clear hk pn tl tg
          go_upto_region 19 with (fail)
          refine wp_region_lit ?_
          refine wpList_run rfl (.int .i64 (q)) (by simp [go_sem]) ?_
          simp only [Act.put, List.setIfInBounds_toArray, List.set_cons_zero, List.set_cons_succ]
          refine wpList_run rfl (.int .i64 (qz)) (by simp [go_sem, hqz']) ?_
          simp only [Act.put, List.setIfInBounds_toArray, List.set_cons_zero, List.set_cons_succ]
          refine wpList_run rfl (.int .i64 (qz)) (by simp [go_sem]) ?_
          simp only [Act.put, List.setIfInBounds_toArray, List.set_cons_zero, List.set_cons_succ]
          clear hqz'
          obtain ⟨t, ht⟩ : ∃ t : Nat, (t : Int) = qz + 4096 := ⟨(qz + 4096).toNat, by omega⟩
          have ht4 : Hid (t < 4096) := hideit (by omega)
          go_upto_region 20 with (fail)
          refine wp_region_lit ?_
          refine wpList_run rfl (.int .i64 (qz)) (by simp [go_sem]) ?_
          simp only [Act.put, List.setIfInBounds_toArray, List.set_cons_zero, List.set_cons_succ]
          refine wpList_run rfl (.bool true) (by simp [go_sem, qn]) ?_
          simp only [Act.put, List.setIfInBounds_toArray, List.set_cons_zero, List.set_cons_succ]
          have e91 : IntKind.i64.wrap (qz + 4096) = (t : Int) := by rw [IntKind.wrap_i64]; omega
          go_upto_region 21 with (fail)
          refine wp_region_lit ?_
          refine wpList_run rfl (.int .i64 (qz)) (by simp [go_sem]) ?_
          simp only [Act.put, List.setIfInBounds_toArray, List.set_cons_zero, List.set_cons_succ]
          refine wpList_run rfl (.int .i64 (t : Int)) (by simp [go_sem, e91]) ?_
          simp only [Act.put, List.setIfInBounds_toArray, List.set_cons_zero, List.set_cons_succ]
          refine wpList_run rfl (.int .i64 (t : Int)) (by simp [go_sem]) ?_
          simp only [Act.put, List.setIfInBounds_toArray, List.set_cons_zero, List.set_cons_succ]
          clear e91
          clear ht qn ql qg
          go_upto_region 22 with (fail)
          refine wp_region_lit ?_
          have XN : Ext y1 (y1.alloc (.cells #[] 34)) := (Below.refl _ _).alloc (Nat.le_refl _) _
          have hBx := hideit (hB.out.ext XN)
          refine wpList_to rfl (.slice (some ⟨y1.heap.size, 0, none⟩) 0 0) (y1.alloc (.cells #[] 34)) (by simp [go_sem]) ?_
          simp only [Act.put, List.setIfInBounds_toArray, List.set_cons_zero, List.set_cons_succ]
          clear XN
          refine wpList_run rfl (.slice (some a) i vc) (by simp [go_sem]) ?_
          simp only [Act.put, List.setIfInBounds_toArray, List.set_cons_zero, List.set_cons_succ]
          refine wpList_gl rfl (.tmp 92) (.tmp 93) rfl rfl a i vc us rfl (lies_pl hBx.out) (fun j hj => by obtain ⟨z, cp, h⟩ := hus.out j hj; rw [h]; rfl) (by have := m3.out; omega) (by have := m3.out; omega) ?_
          intro g gc w4 hR hg4 hgc hX4
          simp only [Act.put, List.setIfInBounds_toArray, List.set_cons_zero, List.set_cons_succ]
          have hA : Hid (AllB w4.heap.size g i us F w4) := fun j hj => by
            obtain ⟨z', cp', h', hcp, hl', _⟩ := hB.out.byt j hj
            have h1 : z' < y1.heap.size := hl'.2
            have h2 := Below.size hX4
            exact ⟨z', cp', h', hcp, hl'.carry hX4, by omega, by omega⟩
          have hwg : Hid (w.heap.size ≤ g) := hideit (Nat.le_trans (Below.size hX.out) hg4)
          replace hB := hideit (hB.out.ext hX4)
          replace hT := hideit (hT.out.ext hX4)
          replace hX := hideit (Ext.trans hX.out hX4)
          replace hR := hideit hR
          have hgc2 : Hid (i ≤ gc) := hideit hgc
          clear hBx hX4 hg4 hgc
          refine wpList_run rfl (.slice (some ⟨g, 0, none⟩) i gc) (by simp [go_sem]) ?_
          simp only [Act.put, List.setIfInBounds_toArray, List.set_cons_zero, List.set_cons_succ]
          obtain ⟨z, zc, hzu⟩ := hus.out k hki.out
          obtain ⟨a', ha, hel⟩ := hB.out.pl.at k hki.out
          injection ha with ha
          subst ha
          rw [hzu] at hel
          have k1 : (k : Int) < (i : Int) := by have := hki.out; omega
          have hbz : Hid (BV (.slice (some ⟨z, 0, none⟩) 512 zc) 512 (F k) w4) := hideit (by have := hB.out.parts.2 k hki.out; rw [hzu] at this; exact this)
          have hRg0 : Hid (g < w4.heap.size) := hideit hR.out.2.2
          go_upto_region 23 with (fail)
          refine wp_region_lit ?_
          refine wpList_run rfl (.slice (some ⟨g, 0, none⟩) i gc) (by simp [go_sem]) ?_
          simp only [Act.put, List.setIfInBounds_toArray, List.set_cons_zero, List.set_cons_succ]
          refine wpList_run rfl (.int .i64 (k : Int)) (by simp [go_sem]) ?_
          simp only [Act.put, List.setIfInBounds_toArray, List.set_cons_zero, List.set_cons_succ]
          have XN : Ext w4 (w4.alloc (.cells #[] 5)) := (Below.refl _ _).alloc (Nat.le_refl _) _
          have G0 := hideit (GB.empty w4 (Ext.refl w4) (F k))
          have hel' := cell_ext' XN hel
          replace hbz := hideit (hbz.out.ext XN)
          refine wpList_to rfl (.slice (some ⟨w4.heap.size, 0, none⟩) 0 0) (w4.alloc (.cells #[] 5)) (by simp [go_sem]) ?_
          simp only [Act.put, List.setIfInBounds_toArray, List.set_cons_zero, List.set_cons_succ]
          clear XN hel
          generalize w4.alloc (.cells #[] 5) = w5 at G0 hel' hbz ⊢
          obtain ⟨g5, hg5⟩ : ∃ g, g = w4.heap.size := ⟨_, rfl⟩
          rw [← hg5] at G0 ⊢
          clear hg5
          refine wpList_run rfl (.slice (some a) i vc) (by simp [go_sem]) ?_
          simp only [Act.put, List.setIfInBounds_toArray, List.set_cons_zero, List.set_cons_succ]
          refine wpList_run rfl (.int .i64 (k : Int)) (by simp [go_sem]) ?_
          simp only [Act.put, List.setIfInBounds_toArray, List.set_cons_zero, List.set_cons_succ]
          refine wpList_run rfl (.pointer (some (a.add k))) (by simp [go_sem, k1]) ?_
          simp only [Act.put, List.setIfInBounds_toArray, List.set_cons_zero, List.set_cons_succ]
          refine wpList_run rfl (.slice (some ⟨z, 0, none⟩) 512 zc) (by simp [go_sem, hel']) ?_
          simp only [Act.put, List.setIfInBounds_toArray, List.set_cons_zero, List.set_cons_succ]
          refine wpList_gb rfl (.tmp 97) (.tmp 101) rfl rfl G0.out (.slice (some ⟨z, 0, none⟩) 512 zc) 512 (F k) rfl hbz.out (by decide) ?_
          intro v6 w6 hG6
          replace hG6 : GB w4 v6 512 (F k) w6 := hG6.congr (by decide) fun j hj => by unfold catF; rw [if_neg (by omega), Nat.sub_zero]
          obtain ⟨d, dc, rfl, hd4, hdc, _, hRd⟩ := hG6.1.lies (by decide)
          simp only [Act.put, List.setIfInBounds_toArray, List.set_cons_zero, List.set_cons_succ]
          have hX6 := hG6.2
          replace hR := hideit (hR.out.carry hX6)
          replace hA := hideit (hA.out.ext hX6)
          replace hT := hideit (hT.out.ext hX6)
          replace hX := hideit (Ext.trans hX.out hX6)
          have hgd : Hid (g ≠ d) := hideit (by
            intro e
            have := hRg0.out
            omega)
          have hwd : Hid (w.heap.size ≤ d) := hideit (Nat.le_trans (Nat.le_trans hwg.out (Nat.le_of_lt hRg0.out)) hd4)
          replace hRd := hideit hRd
          have hd4' := hideit hd4
          have hdc2 := hideit hdc
          clear G0 hbz hG6 hX6 hd4 hel' hdc hB
          refine wpList_run rfl (.pointer (some ⟨g, k, none⟩)) (by simp [go_sem, k1]) ?_
          simp only [Act.put, List.setIfInBounds_toArray, List.set_cons_zero, List.set_cons_succ]
          have M0 : w6.cell? ⟨g, k, none⟩ = some (us k) := hR.out.1 k hki.out
          have M1 : w6.frozen? ⟨g, k, none⟩ = false := hR.out.2.1 k hki.out
          have N0 := hideit (hR.out.set k (.slice (some ⟨d, 0, none⟩) 512 dc))
          have N1 := hideit (hRd.out.other ⟨g, k, none⟩ (.slice (some ⟨d, 0, none⟩) 512 dc) hgd.out)
          have N2 : Hid (Ext w (w6.setCell ⟨g, k, none⟩ (.slice (some ⟨d, 0, none⟩) 512 dc))) := Below.setCell hX.out (p := ⟨g, k, none⟩) hwg.out _
          have N3 := hideit (hA.out.set ⟨g, k, none⟩ (.slice (some ⟨d, 0, none⟩) 512 dc) (.inl rfl))
          have N4 : Hid (TabC (w6.setCell ⟨g, k, none⟩ (.slice (some ⟨d, 0, none⟩) 512 dc))) := tabc_set hT.out _ _ (by show g ≠ 0; have := hwg.out; have := hw0.out; omega)
          refine xst rfl (w6.setCell ⟨g, k, none⟩ (.slice (some ⟨d, 0, none⟩) 512 dc)) (by simp [go_sem, M0, M1]) ?_
          simp only [Act.put]
          generalize w6.setCell ⟨g, k, none⟩ (.slice (some ⟨d, 0, none⟩) 512 dc) = w7 at N0 N1 N2 N3 N4 ⊢
          clear M0 M1 hR hRd hX hA hT
          have t8 : t / 8 < 512 := by have := ht4.out; omega
          have t8i : ((t / 8 : Nat) : Int) < 512 := by omega
          have e109 : IntKind.i64.wrap ((t : Int) / 8) = ((t / 8 : Nat) : Int) := by
            rw [IntKind.wrap_i64]
            omega
          have e119 : (t : Int).tmod 8 = ((t % 8 : Nat) : Int) := by
            rw [Int.tmod_eq_emod_of_nonneg (by omega)]
            omega
          obtain ⟨r, hr⟩ : ∃ r, r = t % 8 := ⟨_, rfl⟩
          obtain ⟨bt, hbt, hb1, hb2⟩ := bit8 (t % 8) (by omega)
          rw [← hr] at e119 hb1 hb2
          have hr8 : r < 8 := by omega
          obtain ⟨e, he⟩ : ∃ e, e = t / 8 := ⟨_, rfl⟩
          rw [← he] at t8 t8i e109
          have xf := x8_fact (F k e) bt
          replace he := hideit he
          replace hr := hideit hr
          replace hbt := hideit hbt
          replace t8 := hideit t8
          clear hr8
          go_upto_region 24 with (fail)
          replace N0 := hideit N0.out.drew
          replace N1 := hideit N1.out.drew
          replace N3 := hideit (N3.out.ext (Ext.draw (Ext.refl w7)))
          replace N4 := hideit (N4.out.ext (Ext.draw (Ext.refl w7)))
          replace N2 := hideit (Ext.draw N2.out)
          refine wp_region_ladz (fun X => Ext w7.drew X) [19] [(false, 0), (false, 1), (false, 2), (false, 3), (false, 4), (false, 5), (false, 6), (false, 7), (false, 8), (false, 9), (false, 10), (false, 11), (false, 12), (false, 13), (false, 14), (false, 15), (false, 16), (false, 17), (false, 18), (true, 19)] (by kernel_rfl) (by kernel_rfl) (by decide +kernel) (by decide +kernel) (by decide +kernel) (by decide +kernel) (Ext.refl _) ?_
          refine wpZ_f _ (.slice (some ⟨g, 0, none⟩) i gc) rfl rfl (fun X _ => by simp [go_sem]) ?_
          simp only [List.getElem_toArray, List.getElem_cons_zero, Act.put, List.setIfInBounds_toArray, List.set_cons_zero, List.set_cons_succ]
          refine wpZ_f _ (.int .i64 (k : Int)) rfl rfl (fun X _ => by simp [go_sem]) ?_
          simp only [List.getElem_toArray, List.getElem_cons_zero, List.getElem_cons_succ, Act.put, List.setIfInBounds_toArray, List.set_cons_zero, List.set_cons_succ]
          refine wpZ_f _ (.pointer (some ⟨g, k, none⟩)) rfl rfl (fun X _ => by simp [go_sem, k1]) ?_
          simp only [List.getElem_toArray, List.getElem_cons_zero, List.getElem_cons_succ, Act.put, List.setIfInBounds_toArray, List.set_cons_zero, List.set_cons_succ]
          refine wpZ_f _ (.slice (some ⟨d, 0, none⟩) 512 dc) rfl rfl (fun X hX => (by have q := (N0.out.carry hX).1 k hki.out; simp only [if_pos] at q; simp [go_sem, q])) ?_
          simp only [List.getElem_toArray, List.getElem_cons_zero, List.getElem_cons_succ, Act.put, List.setIfInBounds_toArray, List.set_cons_zero, List.set_cons_succ]
          refine wpZ_f _ (.int .i64 (t : Int)) rfl rfl (fun X _ => by simp [go_sem]) ?_
          simp only [List.getElem_toArray, List.getElem_cons_zero, List.getElem_cons_succ, Act.put, List.setIfInBounds_toArray, List.set_cons_zero, List.set_cons_succ]
          refine wpZ_f _ (.int .i64 (e : Int)) rfl rfl (fun X _ => by simp [go_sem, e109]) ?_
          simp only [List.getElem_toArray, List.getElem_cons_zero, List.getElem_cons_succ, Act.put, List.setIfInBounds_toArray, List.set_cons_zero, List.set_cons_succ]
          refine wpZ_f _ (.slice (some ⟨g, 0, none⟩) i gc) rfl rfl (fun X _ => by simp [go_sem]) ?_
          simp only [List.getElem_toArray, List.getElem_cons_zero, List.getElem_cons_succ, Act.put, List.setIfInBounds_toArray, List.set_cons_zero, List.set_cons_succ]
          refine wpZ_f _ (.int .i64 (k : Int)) rfl rfl (fun X _ => by simp [go_sem]) ?_
          simp only [List.getElem_toArray, List.getElem_cons_zero, List.getElem_cons_succ, Act.put, List.setIfInBounds_toArray, List.set_cons_zero, List.set_cons_succ]
          refine wpZ_f _ (.pointer (some ⟨g, k, none⟩)) rfl rfl (fun X _ => by simp [go_sem, k1]) ?_
          simp only [List.getElem_toArray, List.getElem_cons_zero, List.getElem_cons_succ, Act.put, List.setIfInBounds_toArray, List.set_cons_zero, List.set_cons_succ]
          refine wpZ_f _ (.slice (some ⟨d, 0, none⟩) 512 dc) rfl rfl (fun X hX => (by have q := (N0.out.carry hX).1 k hki.out; simp only [if_pos] at q; simp [go_sem, q])) ?_
          simp only [List.getElem_toArray, List.getElem_cons_zero, List.getElem_cons_succ, Act.put, List.setIfInBounds_toArray, List.set_cons_zero, List.set_cons_succ]
          refine wpZ_f _ (.int .i64 (t : Int)) rfl rfl (fun X _ => by simp [go_sem]) ?_
          simp only [List.getElem_toArray, List.getElem_cons_zero, List.getElem_cons_succ, Act.put, List.setIfInBounds_toArray, List.set_cons_zero, List.set_cons_succ]
          refine wpZ_f _ (.int .i64 (e : Int)) rfl rfl (fun X _ => by simp [go_sem, e109]) ?_
          simp only [List.getElem_toArray, List.getElem_cons_zero, List.getElem_cons_succ, Act.put, List.setIfInBounds_toArray, List.set_cons_zero, List.set_cons_succ]
          refine wpZ_f _ (.pointer (some ⟨d, e, none⟩)) rfl rfl (fun X _ => by simp [go_sem, t8i]) ?_
          simp only [List.getElem_toArray, List.getElem_cons_zero, List.getElem_cons_succ, Act.put, List.setIfInBounds_toArray, List.set_cons_zero, List.set_cons_succ]
          refine wpZ_f _ (.int .u8 ((F k e).toNat : Int)) rfl rfl (fun X hX => (by have q := (N1.out.carry hX).1 e t8.out; simp only [yv] at q; simp [go_sem, q])) ?_
          simp only [List.getElem_toArray, List.getElem_cons_zero, List.getElem_cons_succ, Act.put, List.setIfInBounds_toArray, List.set_cons_zero, List.set_cons_succ]
          refine wpZ_f _ (.int .i64 (t : Int)) rfl rfl (fun X _ => by simp [go_sem]) ?_
          simp only [List.getElem_toArray, List.getElem_cons_zero, List.getElem_cons_succ, Act.put, List.setIfInBounds_toArray, List.set_cons_zero, List.set_cons_succ]
          refine wpZ_f _ (.int .i64 (r : Int)) rfl rfl (fun X _ => by simp [go_sem, e119]) ?_
          simp only [List.getElem_toArray, List.getElem_cons_zero, List.getElem_cons_succ, Act.put, List.setIfInBounds_toArray, List.set_cons_zero, List.set_cons_succ]
          refine wpZ_f _ (.int .u8 (bt.toNat : Int)) rfl rfl (fun X _ => by simp [go_sem, hb1]) ?_
          simp only [List.getElem_toArray, List.getElem_cons_zero, List.getElem_cons_succ, Act.put, List.setIfInBounds_toArray, List.set_cons_zero, List.set_cons_succ]
          refine wpZ_f _ (.int .u8 ((F k e ^^^ bt).toNat : Int)) rfl rfl (fun X _ => by simp [go_sem, xf]) ?_
          simp only [List.getElem_toArray, List.getElem_cons_zero, List.getElem_cons_succ, Act.put, List.setIfInBounds_toArray, List.set_cons_zero, List.set_cons_succ]
          refine wpZ_f _ (.pointer (some ⟨d, e, none⟩)) rfl rfl (fun X _ => by simp [go_sem, t8i]) ?_
          simp only [List.getElem_toArray, List.getElem_cons_zero, List.getElem_cons_succ, Act.put, List.setIfInBounds_toArray, List.set_cons_zero, List.set_cons_succ]
          have M0 : w7.drew.cell? ⟨d, e, none⟩ = some (yv (F k) e) := N1.out.1 e t8.out
          have M1 : w7.drew.frozen? ⟨d, e, none⟩ = false := N1.out.2.1 e t8.out
          have L0 := hideit (N0.out.other ⟨d, e, none⟩ (.int .u8 ((F k e ^^^ bt).toNat : Int)) (Ne.symm hgd.out))
          have L1 := hideit ((N1.out.set e (.int .u8 ((F k e ^^^ bt).toNat : Int))).congr (g' := yv fun j => if j = e then F k e ^^^ bt else F k j) fun j hj => by by_cases h : j = e <;> simp [yv, h])
          have L2 : Hid (Ext w (w7.drew.setCell ⟨d, e, none⟩ (.int .u8 ((F k e ^^^ bt).toNat : Int)))) := Below.setCell N2.out (p := ⟨d, e, none⟩) hwd.out _
          have L3 := hideit (N3.out.set ⟨d, e, none⟩ (.int .u8 ((F k e ^^^ bt).toNat : Int)) (.inr hd4'.out))
          have L4 : Hid (TabC (w7.drew.setCell ⟨d, e, none⟩ (.int .u8 ((F k e ^^^ bt).toNat : Int)))) := tabc_set N4.out _ _ (by show d ≠ 0; have := hwd.out; have := hw0.out; omega)
          refine wpZ_st _ (w7.drew.setCell ⟨d, e, none⟩ (.int .u8 ((F k e ^^^ bt).toNat : Int))) rfl rfl (by simp [go_sem, M0, M1]) (fun _ => True) (.inl (by simp)) trivial ?_
          simp only [List.getElem_toArray, List.getElem_cons_zero, List.getElem_cons_succ, Act.put]
          generalize w7.drew.setCell ⟨d, e, none⟩ (.int .u8 ((F k e ^^^ bt).toNat : Int)) = w8 at L0 L1 L2 L3 L4 ⊢
          clear M0 M1 N0 N1 N2 N3 N4
          refine wpZ_nil ?_
          obtain ⟨hPL, hBV⟩ := all_pl L3.out hgc2.out L0.out L1.out hdc2.out
          replace hPL := hideit hPL
          replace hBV := hideit hBV
          clear L0 L1 L3 t8i e109 e119 hb1 hb2 xf
          go_upto_region 25 with (fail)
          refine wp_region_lit ?_
          refine wpList_run rfl (.int .u64 (x.toNat : Int)) (by simp [go_sem]) ?_
          simp only [Act.put, List.setIfInBounds_toArray, List.set_cons_zero, List.set_cons_succ]
          refine wpList_run rfl (.slice (some ⟨g, 0, none⟩) i gc) (by simp [go_sem]) ?_
          simp only [Act.put, List.setIfInBounds_toArray, List.set_cons_zero, List.set_cons_succ]
          refine wpList_call rfl (by simp [go_sem]) ((parse_code x (.slice (some ⟨g, 0, none⟩) i gc) i (fun j => if j = k then .slice (some ⟨d, 0, none⟩) 512 dc else us j) (fun _ => 512) (fun j => if j = k then (fun j => if j = e then F k e ^^^ bt else F k j) else F j) w8 L4.out hPL.out (fun _ => hBV.out 0 (by have := m3.out; omega)) (fun _ _ => by decide) (by have := m3.out; omega)).mono ?_)
          rintro e y9 ⟨pv2, pc2, r2, rfl, hr2, hX9⟩
          refine ⟨_, rfl, ?_⟩
          simp only [Act.put, List.setIfInBounds_toArray, List.set_cons_zero, List.set_cons_succ]
          replace L4 := hideit (L4.out.ext hX9)
          replace L2 := hideit (Ext.trans L2.out hX9)
          clear hX9 hPL hBV
          refine wpList_run rfl (.tuple #[pv2, pc2, .int .i64 (r2)]) (by simp [go_sem]) ?_
          simp only [Act.put, List.setIfInBounds_toArray, List.set_cons_zero, List.set_cons_succ]
          refine wpList_run rfl (pv2) (by simp [go_sem]) ?_
          simp only [Act.put, List.setIfInBounds_toArray, List.set_cons_zero, List.set_cons_succ]
          refine wpList_run rfl (pc2) (by simp [go_sem]) ?_
          simp only [Act.put, List.setIfInBounds_toArray, List.set_cons_zero, List.set_cons_succ]
          refine wpList_run rfl (.int .i64 (r2)) (by simp [go_sem]) ?_
          simp only [Act.put, List.setIfInBounds_toArray, List.set_cons_zero, List.set_cons_succ]
          refine wpList_run rfl (pv2) (by simp [go_sem]) ?_
          simp only [Act.put, List.setIfInBounds_toArray, List.set_cons_zero, List.set_cons_succ]
          refine wpList_run rfl (pc2) (by simp [go_sem]) ?_
          simp only [Act.put, List.setIfInBounds_toArray, List.set_cons_zero, List.set_cons_succ]
          refine wpList_run rfl (.int .i64 (r2)) (by simp [go_sem]) ?_
          simp only [Act.put, List.setIfInBounds_toArray, List.set_cons_zero, List.set_cons_succ]
          rcases hr2 with ⟨h2, rfl⟩ | ⟨_, rfl⟩
          · have hlast : Hid ((k : Int) < (i : Int) - 1) := hideit (by
              by_cases hq : k = n + 1
              · exfalso
                refine tx_no hok.out (fun _ _ => rfl) (fun j hj => ?_) e t8.out ?_ h2
                · show (if j = k then _ else F j) = _
                  rw [if_neg (by omega), hF.out]
                · show (if n + 1 = k then _ else F (n + 1)) e ≠ _
                  rw [if_pos hq.symm, ← hF.out]
                  show (if e = e then _ else _) ≠ _
                  rw [if_pos rfl, ← hq]
                  exact xor_ne _ _ hbt.out
              · have := hki.out
                have := hm.out
                omega)
            have e139 : IntKind.i64.wrap ((i : Int) - 1) = (i : Int) - 1 := by have := m3.out; rw [IntKind.wrap_i64]; omega
            go_upto_region 26 with (fail)
            refine wp_region_lit ?_
            refine wpList_run rfl (.int .i64 0) (by simp [go_sem]) ?_
            simp only [Act.put, List.setIfInBounds_toArray, List.set_cons_zero, List.set_cons_succ]
            refine wpList_run rfl (.bool false) (by simp [go_sem]) ?_
            simp only [Act.put, List.setIfInBounds_toArray, List.set_cons_zero, List.set_cons_succ]
            refine wpList_run rfl (.bool false) (by simp [go_sem]) ?_
            simp only [Act.put, List.setIfInBounds_toArray, List.set_cons_zero, List.set_cons_succ]
            refine wpList_runW rfl (.int .i64 0) (by simp [go_sem]) ?_
            simp only [Act.put, List.setIfInBounds_toArray, List.set_cons_zero, List.set_cons_succ]
            refine wpList_runW rfl (.bool true) (by simp [go_sem]) ?_
            simp only [Act.put, List.setIfInBounds_toArray, List.set_cons_zero, List.set_cons_succ]
            refine wpList_runW rfl (.bool true) (by simp [go_sem]) ?_
            simp only [Act.put, List.setIfInBounds_toArray, List.set_cons_zero, List.set_cons_succ]
            refine wpList_runW rfl (.int .i64 (k : Int)) (by simp [go_sem]) ?_
            simp only [Act.put, List.setIfInBounds_toArray, List.set_cons_zero, List.set_cons_succ]
            refine wpList_runW rfl (.slice (some a) i vc) (by simp [go_sem]) ?_
            simp only [Act.put, List.setIfInBounds_toArray, List.set_cons_zero, List.set_cons_succ]
            refine wpList_runW rfl (.int .i64 (i : Int)) (by simp [go_sem]) ?_
            simp only [Act.put, List.setIfInBounds_toArray, List.set_cons_zero, List.set_cons_succ]
            refine wpList_runW rfl (.int .i64 ((i : Int) - 1)) (by simp [go_sem, e139]) ?_
            simp only [Act.put, List.setIfInBounds_toArray, List.set_cons_zero, List.set_cons_succ]
            refine wpList_runW rfl (.bool true) (by simp [go_sem, hlast.out]) ?_
            simp only [Act.put, List.setIfInBounds_toArray, List.set_cons_zero, List.set_cons_succ]
            refine wpList_runW rfl (.bool true) (by simp [go_sem]) ?_
            simp only [Act.put, List.setIfInBounds_toArray, List.set_cons_zero, List.set_cons_succ]
            refine wpList_run rfl (.bool true) (by simp [go_sem]) ?_
            simp only [Act.put, List.setIfInBounds_toArray, List.set_cons_zero, List.set_cons_succ]
            refine wpList_run rfl (.bool true) (by simp [go_sem]) ?_
            simp only [Act.put, List.setIfInBounds_toArray, List.set_cons_zero, List.set_cons_succ]
            go_wp2
            go_ret
            exact ⟨rfl, L2.out⟩
          · go_upto_region 26 with (fail)
            refine wp_region_lit ?_
            refine wpList_run rfl (.int .i64 110) (by simp [go_sem]) ?_
            simp only [Act.put, List.setIfInBounds_toArray, List.set_cons_zero, List.set_cons_succ]
            refine wpList_run rfl (.bool true) (by simp [go_sem]) ?_
            simp only [Act.put, List.setIfInBounds_toArray, List.set_cons_zero, List.set_cons_succ]
            refine wpList_run rfl (.bool true) (by simp [go_sem]) ?_
            simp only [Act.put, List.setIfInBounds_toArray, List.set_cons_zero, List.set_cons_succ]
            with_reducible refine xnot (by with_unfolding_all rfl) ?_
            simp only [Act.put, List.setIfInBounds_toArray, List.set_cons_zero, List.set_cons_succ]
            with_reducible refine xnot (by with_unfolding_all rfl) ?_
            simp only [Act.put, List.setIfInBounds_toArray, List.set_cons_zero, List.set_cons_succ]
            with_reducible refine xnot (by with_unfolding_all rfl) ?_
            simp only [Act.put, List.setIfInBounds_toArray, List.set_cons_zero, List.set_cons_succ]
            with_reducible refine xnot (by with_unfolding_all rfl) ?_
            simp only [Act.put, List.setIfInBounds_toArray, List.set_cons_zero, List.set_cons_succ]
            with_reducible refine xnot (by with_unfolding_all rfl) ?_
            simp only [Act.put, List.setIfInBounds_toArray, List.set_cons_zero, List.set_cons_succ]
            with_reducible refine xnot (by with_unfolding_all rfl) ?_
            simp only [Act.put, List.setIfInBounds_toArray, List.set_cons_zero, List.set_cons_succ]
            with_reducible refine xnot (by with_unfolding_all rfl) ?_
            simp only [Act.put, List.setIfInBounds_toArray, List.set_cons_zero, List.set_cons_succ]
            with_reducible refine xnot (by with_unfolding_all rfl) ?_
            simp only [Act.put, List.setIfInBounds_toArray, List.set_cons_zero, List.set_cons_succ]
            with_reducible refine xnot (by with_unfolding_all rfl) ?_
            simp only [Act.put, List.setIfInBounds_toArray, List.set_cons_zero, List.set_cons_succ]
            refine wpList_run rfl (.bool true) (by simp [go_sem]) ?_
            simp only [Act.put, List.setIfInBounds_toArray, List.set_cons_zero, List.set_cons_succ]
            refine wpList_run rfl (.bool true) (by simp [go_sem]) ?_
            simp only [Act.put, List.setIfInBounds_toArray, List.set_cons_zero, List.set_cons_succ]
            go_wp2
            go_ret
            exact ⟨rfl, L2.out⟩
        · obtain ⟨k, hk⟩ : ∃ k : Nat, (k : Int) = pz + (i : Int) := ⟨(pz + (i : Int)).toNat, by omega⟩
          have hki : Hid (k < i) := hideit (by omega)
          go_upto_region 17 with (fail)
          refine wp_region_lit ?_
          refine wpList_run rfl (.int .i64 (pz)) (by simp [go_sem]) ?_
          simp only [Act.put, List.setIfInBounds_toArray, List.set_cons_zero, List.set_cons_succ]
          refine wpList_run rfl (.bool true) (by simp [go_sem, pn]) ?_
          simp only [Act.put, List.setIfInBounds_toArray, List.set_cons_zero, List.set_cons_succ]
          have e85 : IntKind.i64.wrap (pz + (i : Int)) = (k : Int) := by have := m3.out; rw [IntKind.wrap_i64]; omega
          go_upto_region 18 with (fail)
          refine wp_region_lit ?_
          refine wpList_run rfl (.int .i64 (pz)) (by simp [go_sem]) ?_
          simp only [Act.put, List.setIfInBounds_toArray, List.set_cons_zero, List.set_cons_succ]
          refine wpList_run rfl (.slice (some a) i vc) (by simp [go_sem]) ?_
          simp only [Act.put, List.setIfInBounds_toArray, List.set_cons_zero, List.set_cons_succ]
          refine wpList_run rfl (.int .i64 (i : Int)) (by simp [go_sem]) ?_
          simp only [Act.put, List.setIfInBounds_toArray, List.set_cons_zero, List.set_cons_succ]
          refine wpList_run rfl (.int .i64 (k : Int)) (by simp [go_sem, e85]) ?_
          simp only [Act.put, List.setIfInBounds_toArray, List.set_cons_zero, List.set_cons_succ]
          refine wpList_run rfl (.int .i64 (k : Int)) (by simp [go_sem]) ?_
          simp only [Act.put, List.setIfInBounds_toArray, List.set_cons_zero, List.set_cons_succ]
          clear e85
          clear hk pn tl tg
          go_upto_region 19 with (fail)
          refine wp_region_lit ?_
          refine wpList_run rfl (.int .i64 (q)) (by simp [go_sem]) ?_
          simp only [Act.put, List.setIfInBounds_toArray, List.set_cons_zero, List.set_cons_succ]
          refine wpList_run rfl (.int .i64 (qz)) (by simp [go_sem, hqz']) ?_
          simp only [Act.put, List.setIfInBounds_toArray, List.set_cons_zero, List.set_cons_succ]
          refine wpList_run rfl (.int .i64 (qz)) (by simp [go_sem]) ?_
          simp only [Act.put, List.setIfInBounds_toArray, List.set_cons_zero, List.set_cons_succ]
          clear hqz'
          obtain ⟨t, ht⟩ : ∃ t : Nat, (t : Int) = qz := ⟨(qz).toNat, by omega⟩
          have ht4 : Hid (t < 4096) := hideit (by omega)
          go_upto_region 20 with (fail)
          refine wp_region_lit ?_
          refine wpList_run rfl (.int .i64 (qz)) (by simp [go_sem]) ?_
          simp only [Act.put, List.setIfInBounds_toArray, List.set_cons_zero, List.set_cons_succ]
          refine wpList_run rfl (.bool false) (by simp [go_sem, qn]) ?_
          simp only [Act.put, List.setIfInBounds_toArray, List.set_cons_zero, List.set_cons_succ]
          rw [← ht]
          clear ht qn ql qg
          go_upto_region 22 with (fail)
          refine wp_region_lit ?_
          have XN : Ext y1 (y1.alloc (.cells #[] 34)) := (Below.refl _ _).alloc (Nat.le_refl _) _
          have hBx := hideit (hB.out.ext XN)
          refine wpList_to rfl (.slice (some ⟨y1.heap.size, 0, none⟩) 0 0) (y1.alloc (.cells #[] 34)) (by simp [go_sem]) ?_
          simp only [Act.put, List.setIfInBounds_toArray, List.set_cons_zero, List.set_cons_succ]
          clear XN
          refine wpList_run rfl (.slice (some a) i vc) (by simp [go_sem]) ?_
          simp only [Act.put, List.setIfInBounds_toArray, List.set_cons_zero, List.set_cons_succ]
          refine wpList_gl rfl (.tmp 92) (.tmp 93) rfl rfl a i vc us rfl (lies_pl hBx.out) (fun j hj => by obtain ⟨z, cp, h⟩ := hus.out j hj; rw [h]; rfl) (by have := m3.out; omega) (by have := m3.out; omega) ?_
          intro g gc w4 hR hg4 hgc hX4
          simp only [Act.put, List.setIfInBounds_toArray, List.set_cons_zero, List.set_cons_succ]
          have hA : Hid (AllB w4.heap.size g i us F w4) := fun j hj => by
            obtain ⟨z', cp', h', hcp, hl', _⟩ := hB.out.byt j hj
            have h1 : z' < y1.heap.size := hl'.2
            have h2 := Below.size hX4
            exact ⟨z', cp', h', hcp, hl'.carry hX4, by omega, by omega⟩
          have hwg : Hid (w.heap.size ≤ g) := hideit (Nat.le_trans (Below.size hX.out) hg4)
          replace hB := hideit (hB.out.ext hX4)
          replace hT := hideit (hT.out.ext hX4)
          replace hX := hideit (Ext.trans hX.out hX4)
          replace hR := hideit hR
          have hgc2 : Hid (i ≤ gc) := hideit hgc
          clear hBx hX4 hg4 hgc
          refine wpList_run rfl (.slice (some ⟨g, 0, none⟩) i gc) (by simp [go_sem]) ?_
          simp only [Act.put, List.setIfInBounds_toArray, List.set_cons_zero, List.set_cons_succ]
          obtain ⟨z, zc, hzu⟩ := hus.out k hki.out
          obtain ⟨a', ha, hel⟩ := hB.out.pl.at k hki.out
          injection ha with ha
          subst ha
          rw [hzu] at hel
          have k1 : (k : Int) < (i : Int) := by have := hki.out; omega
          have hbz : Hid (BV (.slice (some ⟨z, 0, none⟩) 512 zc) 512 (F k) w4) := hideit (by have := hB.out.parts.2 k hki.out; rw [hzu] at this; exact this)
          have hRg0 : Hid (g < w4.heap.size) := hideit hR.out.2.2
          go_upto_region 23 with (fail)
          refine wp_region_lit ?_
          refine wpList_run rfl (.slice (some ⟨g, 0, none⟩) i gc) (by simp [go_sem]) ?_
          simp only [Act.put, List.setIfInBounds_toArray, List.set_cons_zero, List.set_cons_succ]
          refine wpList_run rfl (.int .i64 (k : Int)) (by simp [go_sem]) ?_
          simp only [Act.put, List.setIfInBounds_toArray, List.set_cons_zero, List.set_cons_succ]
          have XN : Ext w4 (w4.alloc (.cells #[] 5)) := (Below.refl _ _).alloc (Nat.le_refl _) _
          have G0 := hideit (GB.empty w4 (Ext.refl w4) (F k))
          have hel' := cell_ext' XN hel
          replace hbz := hideit (hbz.out.ext XN)
          refine wpList_to rfl (.slice (some ⟨w4.heap.size, 0, none⟩) 0 0) (w4.alloc (.cells #[] 5)) (by simp [go_sem]) ?_
          simp only [Act.put, List.setIfInBounds_toArray, List.set_cons_zero, List.set_cons_succ]
          clear XN hel
          generalize w4.alloc (.cells #[] 5) = w5 at G0 hel' hbz ⊢
          obtain ⟨g5, hg5⟩ : ∃ g, g = w4.heap.size := ⟨_, rfl⟩
          rw [← hg5] at G0 ⊢
          clear hg5
          refine wpList_run rfl (.slice (some a) i vc) (by simp [go_sem]) ?_
          simp only [Act.put, List.setIfInBounds_toArray, List.set_cons_zero, List.set_cons_succ]
          refine wpList_run rfl (.int .i64 (k : Int)) (by simp [go_sem]) ?_
          simp only [Act.put, List.setIfInBounds_toArray, List.set_cons_zero, List.set_cons_succ]
          refine wpList_run rfl (.pointer (some (a.add k))) (by simp [go_sem, k1]) ?_
          simp only [Act.put, List.setIfInBounds_toArray, List.set_cons_zero, List.set_cons_succ]
          refine wpList_run rfl (.slice (some ⟨z, 0, none⟩) 512 zc) (by simp [go_sem, hel']) ?_
          simp only [Act.put, List.setIfInBounds_toArray, List.set_cons_zero, List.set_cons_succ]
          refine wpList_gb rfl (.tmp 97) (.tmp 101) rfl rfl G0.out (.slice (some ⟨z, 0, none⟩) 512 zc) 512 (F k) rfl hbz.out (by decide) ?_
          intro v6 w6 hG6
          replace hG6 : GB w4 v6 512 (F k) w6 := hG6.congr (by decide) fun j hj => by unfold catF; rw [if_neg (by omega), Nat.sub_zero]
          obtain ⟨d, dc, rfl, hd4, hdc, _, hRd⟩ := hG6.1.lies (by decide)
          simp only [Act.put, List.setIfInBounds_toArray, List.set_cons_zero, List.set_cons_succ]
          have hX6 := hG6.2
          replace hR := hideit (hR.out.carry hX6)
          replace hA := hideit (hA.out.ext hX6)
          replace hT := hideit (hT.out.ext hX6)
          replace hX := hideit (Ext.trans hX.out hX6)
          have hgd : Hid (g ≠ d) := hideit (by
            intro e
            have := hRg0.out
            omega)
          have hwd : Hid (w.heap.size ≤ d) := hideit (Nat.le_trans (Nat.le_trans hwg.out (Nat.le_of_lt hRg0.out)) hd4)
          replace hRd := hideit hRd
          have hd4' := hideit hd4
          have hdc2 := hideit hdc
          clear G0 hbz hG6 hX6 hd4 hel' hdc hB
          refine wpList_run rfl (.pointer (some ⟨g, k, none⟩)) (by simp [go_sem, k1]) ?_
          simp only [Act.put, List.setIfInBounds_toArray, List.set_cons_zero, List.set_cons_succ]
          have M0 : w6.cell? ⟨g, k, none⟩ = some (us k) := hR.out.1 k hki.out
          have M1 : w6.frozen? ⟨g, k, none⟩ = false := hR.out.2.1 k hki.out
          have N0 := hideit (hR.out.set k (.slice (some ⟨d, 0, none⟩) 512 dc))
          have N1 := hideit (hRd.out.other ⟨g, k, none⟩ (.slice (some ⟨d, 0, none⟩) 512 dc) hgd.out)
          have N2 : Hid (Ext w (w6.setCell ⟨g, k, none⟩ (.slice (some ⟨d, 0, none⟩) 512 dc))) := Below.setCell hX.out (p := ⟨g, k, none⟩) hwg.out _
          have N3 := hideit (hA.out.set ⟨g, k, none⟩ (.slice (some ⟨d, 0, none⟩) 512 dc) (.inl rfl))
          have N4 : Hid (TabC (w6.setCell ⟨g, k, none⟩ (.slice (some ⟨d, 0, none⟩) 512 dc))) := tabc_set hT.out _ _ (by show g ≠ 0; have := hwg.out; have := hw0.out; omega)
          refine xst rfl (w6.setCell ⟨g, k, none⟩ (.slice (some ⟨d, 0, none⟩) 512 dc)) (by simp [go_sem, M0, M1]) ?_
          simp only [Act.put]
          generalize w6.setCell ⟨g, k, none⟩ (.slice (some ⟨d, 0, none⟩) 512 dc) = w7 at N0 N1 N2 N3 N4 ⊢
          clear M0 M1 hR hRd hX hA hT
          have t8 : t / 8 < 512 := by have := ht4.out; omega
          have t8i : ((t / 8 : Nat) : Int) < 512 := by omega
          have e109 : IntKind.i64.wrap ((t : Int) / 8) = ((t / 8 : Nat) : Int) := by
            rw [IntKind.wrap_i64]
            omega
          have e119 : (t : Int).tmod 8 = ((t % 8 : Nat) : Int) := by
            rw [Int.tmod_eq_emod_of_nonneg (by omega)]
            omega
          obtain ⟨r, hr⟩ : ∃ r, r = t % 8 := ⟨_, rfl⟩
          obtain ⟨bt, hbt, hb1, hb2⟩ := bit8 (t % 8) (by omega)
          rw [← hr] at e119 hb1 hb2
          have hr8 : r < 8 := by omega
          obtain ⟨e, he⟩ : ∃ e, e = t / 8 := ⟨_, rfl⟩
          rw [← he] at t8 t8i e109
          have xf := x8_fact (F k e) bt
          replace he := hideit he
          replace hr := hideit hr
          replace hbt := hideit hbt
          replace t8 := hideit t8
          clear hr8
          go_upto_region 24 with (fail)
          replace N0 := hideit N0.out.drew
          replace N1 := hideit N1.out.drew
          replace N3 := hideit (N3.out.ext (Ext.draw (Ext.refl w7)))
          replace N4 := hideit (N4.out.ext (Ext.draw (Ext.refl w7)))
          replace N2 := hideit (Ext.draw N2.out)
          refine wp_region_ladz (fun X => Ext w7.drew X) [19] [(false, 0), (false, 1), (false, 2), (false, 3), (false, 4), (false, 5), (false, 6), (false, 7), (false, 8), (false, 9), (false, 10), (false, 11), (false, 12), (false, 13), (false, 14), (false, 15), (false, 16), (false, 17), (false, 18), (true, 19)] (by kernel_rfl) (by kernel_rfl) (by decide +kernel) (by decide +kernel) (by decide +kernel) (by decide +kernel) (Ext.refl _) ?_
          refine wpZ_f _ (.slice (some ⟨g, 0, none⟩) i gc) rfl rfl (fun X _ => by simp [go_sem]) ?_
          simp only [List.getElem_toArray, List.getElem_cons_zero, Act.put, List.setIfInBounds_toArray, List.set_cons_zero, List.set_cons_succ]
          refine wpZ_f _ (.int .i64 (k : Int)) rfl rfl (fun X _ => by simp [go_sem]) ?_
          simp only [List.getElem_toArray, List.getElem_cons_zero, List.getElem_cons_succ, Act.put, List.setIfInBounds_toArray, List.set_cons_zero, List.set_cons_succ]
          refine wpZ_f _ (.pointer (some ⟨g, k, none⟩)) rfl rfl (fun X _ => by simp [go_sem, k1]) ?_
          simp only [List.getElem_toArray, List.getElem_cons_zero, List.getElem_cons_succ, Act.put, List.setIfInBounds_toArray, List.set_cons_zero, List.set_cons_succ]
          refine wpZ_f _ (.slice (some ⟨d, 0, none⟩) 512 dc) rfl rfl (fun X hX => (by have q := (N0.out.carry hX).1 k hki.out; simp only [if_pos] at q; simp [go_sem, q])) ?_
          simp only [List.getElem_toArray, List.getElem_cons_zero, List.getElem_cons_succ, Act.put, List.setIfInBounds_toArray, List.set_cons_zero, List.set_cons_succ]
          refine wpZ_f _ (.int .i64 (t : Int)) rfl rfl (fun X _ => by simp [go_sem]) ?_
          simp only [List.getElem_toArray, List.getElem_cons_zero, List.getElem_cons_succ, Act.put, List.setIfInBounds_toArray, List.set_cons_zero, List.set_cons_succ]
          refine wpZ_f _ (.int .i64 (e : Int)) rfl rfl (fun X _ => by simp [go_sem, e109]) ?_
          simp only [List.getElem_toArray, List.getElem_cons_zero, List.getElem_cons_succ, Act.put, List.setIfInBounds_toArray, List.set_cons_zero, List.set_cons_succ]
          refine wpZ_f _ (.slice (some ⟨g, 0, none⟩) i gc) rfl rfl (fun X _ => by simp [go_sem]) ?_
          simp only [List.getElem_toArray, List.getElem_cons_zero, List.getElem_cons_succ, Act.put, List.setIfInBounds_toArray, List.set_cons_zero, List.set_cons_succ]
          refine wpZ_f _ (.int .i64 (k : Int)) rfl rfl (fun X _ => by simp [go_sem]) ?_
          simp only [List.getElem_toArray, List.getElem_cons_zero, List.getElem_cons_succ, Act.put, List.setIfInBounds_toArray, List.set_cons_zero, List.set_cons_succ]
          refine wpZ_f _ (.pointer (some ⟨g, k, none⟩)) rfl rfl (fun X _ => by simp [go_sem, k1]) ?_
          simp only [List.getElem_toArray, List.getElem_cons_zero, List.getElem_cons_succ, Act.put, List.setIfInBounds_toArray, List.set_cons_zero, List.set_cons_succ]
          refine wpZ_f _ (.slice (some ⟨d, 0, none⟩) 512 dc) rfl rfl (fun X hX => (by have q := (N0.out.carry hX).1 k hki.out; simp only [if_pos] at q; simp [go_sem, q])) ?_
          simp only [List.getElem_toArray, List.getElem_cons_zero, List.getElem_cons_succ, Act.put, List.setIfInBounds_toArray, List.set_cons_zero, List.set_cons_succ]
          refine wpZ_f _ (.int .i64 (t : Int)) rfl rfl (fun X _ => by simp [go_sem]) ?_
          simp only [List.getElem_toArray, List.getElem_cons_zero, List.getElem_cons_succ, Act.put, List.setIfInBounds_toArray, List.set_cons_zero, List.set_cons_succ]
          refine wpZ_f _ (.int .i64 (e : Int)) rfl rfl (fun X _ => by simp [go_sem, e109]) ?_
          simp only [List.getElem_toArray, List.getElem_cons_zero, List.getElem_cons_succ, Act.put, List.setIfInBounds_toArray, List.set_cons_zero, List.set_cons_succ]
          refine wpZ_f _ (.pointer (some ⟨d, e, none⟩)) rfl rfl (fun X _ => by simp [go_sem, t8i]) ?_
          simp only [List.getElem_toArray, List.getElem_cons_zero, List.getElem_cons_succ, Act.put, List.setIfInBounds_toArray, List.set_cons_zero, List.set_cons_succ]
          refine wpZ_f _ (.int .u8 ((F k e).toNat : Int)) rfl rfl (fun X hX => (by have q := (N1.out.carry hX).1 e t8.out; simp only [yv] at q; simp [go_sem, q])) ?_
          simp only [List.getElem_toArray, List.getElem_cons_zero, List.getElem_cons_succ, Act.put, List.setIfInBounds_toArray, List.set_cons_zero, List.set_cons_succ]
          refine wpZ_f _ (.int .i64 (t : Int)) rfl rfl (fun X _ => by simp [go_sem]) ?_
          simp only [List.getElem_toArray, List.getElem_cons_zero, List.getElem_cons_succ, Act.put, List.setIfInBounds_toArray, List.set_cons_zero, List.set_cons_succ]
          refine wpZ_f _ (.int .i64 (r : Int)) rfl rfl (fun X _ => by simp [go_sem, e119]) ?_
          simp only [List.getElem_toArray, List.getElem_cons_zero, List.getElem_cons_succ, Act.put, List.setIfInBounds_toArray, List.set_cons_zero, List.set_cons_succ]
          refine wpZ_f _ (.int .u8 (bt.toNat : Int)) rfl rfl (fun X _ => by simp [go_sem, hb1]) ?_
          simp only [List.getElem_toArray, List.getElem_cons_zero, List.getElem_cons_succ, Act.put, List.setIfInBounds_toArray, List.set_cons_zero, List.set_cons_succ]
          refine wpZ_f _ (.int .u8 ((F k e ^^^ bt).toNat : Int)) rfl rfl (fun X _ => by simp [go_sem, xf]) ?_
          simp only [List.getElem_toArray, List.getElem_cons_zero, List.getElem_cons_succ, Act.put, List.setIfInBounds_toArray, List.set_cons_zero, List.set_cons_succ]
          refine wpZ_f _ (.pointer (some ⟨d, e, none⟩)) rfl rfl (fun X _ => by simp [go_sem, t8i]) ?_
          simp only [List.getElem_toArray, List.getElem_cons_zero, List.getElem_cons_succ, Act.put, List.setIfInBounds_toArray, List.set_cons_zero, List.set_cons_succ]
          have M0 : w7.drew.cell? ⟨d, e, none⟩ = some (yv (F k) e) := N1.out.1 e t8.out
          have M1 : w7.drew.frozen? ⟨d, e, none⟩ = false := N1.out.2.1 e t8.out
          have L0 := hideit (N0.out.other ⟨d, e, none⟩ (.int .u8 ((F k e ^^^ bt).toNat : Int)) (Ne.symm hgd.out))
          have L1 := hideit ((N1.out.set e (.int .u8 ((F k e ^^^ bt).toNat : Int))).congr (g' := yv fun j => if j = e then F k e ^^^ bt else F k j) fun j hj => by by_cases h : j = e <;> simp [yv, h])
          have L2 : Hid (Ext w (w7.drew.setCell ⟨d, e, none⟩ (.int .u8 ((F k e ^^^ bt).toNat : Int)))) := Below.setCell N2.out (p := ⟨d, e, none⟩) hwd.out _
          have L3 := hideit (N3.out.set ⟨d, e, none⟩ (.int .u8 ((F k e ^^^ bt).toNat : Int)) (.inr hd4'.out))
          have L4 : Hid (TabC (w7.drew.setCell ⟨d, e, none⟩ (.int .u8 ((F k e ^^^ bt).toNat : Int)))) := tabc_set N4.out _ _ (by show d ≠ 0; have := hwd.out; have := hw0.out; omega)
          refine wpZ_st _ (w7.drew.setCell ⟨d, e, none⟩ (.int .u8 ((F k e ^^^ bt).toNat : Int))) rfl rfl (by simp [go_sem, M0, M1]) (fun _ => True) (.inl (by simp)) trivial ?_
          simp only [List.getElem_toArray, List.getElem_cons_zero, List.getElem_cons_succ, Act.put]
          generalize w7.drew.setCell ⟨d, e, none⟩ (.int .u8 ((F k e ^^^ bt).toNat : Int)) = w8 at L0 L1 L2 L3 L4 ⊢
          clear M0 M1 N0 N1 N2 N3 N4
          refine wpZ_nil ?_
          obtain ⟨hPL, hBV⟩ := all_pl L3.out hgc2.out L0.out L1.out hdc2.out
          replace hPL := hideit hPL
          replace hBV := hideit hBV
          clear L0 L1 L3 t8i e109 e119 hb1 hb2 xf
          go_upto_region 25 with (fail)
          refine wp_region_lit ?_
          refine wpList_run rfl (.int .u64 (x.toNat : Int)) (by simp [go_sem]) ?_
          simp only [Act.put, List.setIfInBounds_toArray, List.set_cons_zero, List.set_cons_succ]
          refine wpList_run rfl (.slice (some ⟨g, 0, none⟩) i gc) (by simp [go_sem]) ?_
          simp only [Act.put, List.setIfInBounds_toArray, List.set_cons_zero, List.set_cons_succ]
          refine wpList_call rfl (by simp [go_sem]) ((parse_code x (.slice (some ⟨g, 0, none⟩) i gc) i (fun j => if j = k then .slice (some ⟨d, 0, none⟩) 512 dc else us j) (fun _ => 512) (fun j => if j = k then (fun j => if j = e then F k e ^^^ bt else F k j) else F j) w8 L4.out hPL.out (fun _ => hBV.out 0 (by have := m3.out; omega)) (fun _ _ => by decide) (by have := m3.out; omega)).mono ?_)
          rintro e y9 ⟨pv2, pc2, r2, rfl, hr2, hX9⟩
          refine ⟨_, rfl, ?_⟩
          simp only [Act.put, List.setIfInBounds_toArray, List.set_cons_zero, List.set_cons_succ]
          replace L4 := hideit (L4.out.ext hX9)
          replace L2 := hideit (Ext.trans L2.out hX9)
          clear hX9 hPL hBV
          refine wpList_run rfl (.tuple #[pv2, pc2, .int .i64 (r2)]) (by simp [go_sem]) ?_
          simp only [Act.put, List.setIfInBounds_toArray, List.set_cons_zero, List.set_cons_succ]
          refine wpList_run rfl (pv2) (by simp [go_sem]) ?_
          simp only [Act.put, List.setIfInBounds_toArray, List.set_cons_zero, List.set_cons_succ]
          refine wpList_run rfl (pc2) (by simp [go_sem]) ?_
          simp only [Act.put, List.setIfInBounds_toArray, List.set_cons_zero, List.set_cons_succ]
          refine wpList_run rfl (.int .i64 (r2)) (by simp [go_sem]) ?_
          simp only [Act.put, List.setIfInBounds_toArray, List.set_cons_zero, List.set_cons_succ]
          refine wpList_run rfl (pv2) (by simp [go_sem]) ?_
          simp only [Act.put, List.setIfInBounds_toArray, List.set_cons_zero, List.set_cons_succ]
          refine wpList_run rfl (pc2) (by simp [go_sem]) ?_
          simp only [Act.put, List.setIfInBounds_toArray, List.set_cons_zero, List.set_cons_succ]
          refine wpList_run rfl (.int .i64 (r2)) (by simp [go_sem]) ?_
          simp only [Act.put, List.setIfInBounds_toArray, List.set_cons_zero, List.set_cons_succ]
          rcases hr2 with ⟨h2, rfl⟩ | ⟨_, rfl⟩
          · have hlast : Hid ((k : Int) < (i : Int) - 1) := hideit (by
              by_cases hq : k = n + 1
              · exfalso
                refine tx_no hok.out (fun _ _ => rfl) (fun j hj => ?_) e t8.out ?_ h2
                · show (if j = k then _ else F j) = _
                  rw [if_neg (by omega), hF.out]
                · show (if n + 1 = k then _ else F (n + 1)) e ≠ _
                  rw [if_pos hq.symm, ← hF.out]
                  show (if e = e then _ else _) ≠ _
                  rw [if_pos rfl, ← hq]
                  exact xor_ne _ _ hbt.out
              · have := hki.out
                have := hm.out
                omega)
            have e139 : IntKind.i64.wrap ((i : Int) - 1) = (i : Int) - 1 := by have := m3.out; rw [IntKind.wrap_i64]; omega
            go_upto_region 26 with (fail)
            refine wp_region_lit ?_
            refine wpList_run rfl (.int .i64 0) (by simp [go_sem]) ?_
            simp only [Act.put, List.setIfInBounds_toArray, List.set_cons_zero, List.set_cons_succ]
            refine wpList_run rfl (.bool false) (by simp [go_sem]) ?_
            simp only [Act.put, List.setIfInBounds_toArray, List.set_cons_zero, List.set_cons_succ]
            refine wpList_run rfl (.bool false) (by simp [go_sem]) ?_
            simp only [Act.put, List.setIfInBounds_toArray, List.set_cons_zero, List.set_cons_succ]
            refine wpList_runW rfl (.int .i64 0) (by simp [go_sem]) ?_
            simp only [Act.put, List.setIfInBounds_toArray, List.set_cons_zero, List.set_cons_succ]
            refine wpList_runW rfl (.bool true) (by simp [go_sem]) ?_
            simp only [Act.put, List.setIfInBounds_toArray, List.set_cons_zero, List.set_cons_succ]
            refine wpList_runW rfl (.bool true) (by simp [go_sem]) ?_
            simp only [Act.put, List.setIfInBounds_toArray, List.set_cons_zero, List.set_cons_succ]
            refine wpList_runW rfl (.int .i64 (k : Int)) (by simp [go_sem]) ?_
            simp only [Act.put, List.setIfInBounds_toArray, List.set_cons_zero, List.set_cons_succ]
            refine wpList_runW rfl (.slice (some a) i vc) (by simp [go_sem]) ?_
            simp only [Act.put, List.setIfInBounds_toArray, List.set_cons_zero, List.set_cons_succ]
            refine wpList_runW rfl (.int .i64 (i : Int)) (by simp [go_sem]) ?_
            simp only [Act.put, List.setIfInBounds_toArray, List.set_cons_zero, List.set_cons_succ]
            refine wpList_runW rfl (.int .i64 ((i : Int) - 1)) (by simp [go_sem, e139]) ?_
            simp only [Act.put, List.setIfInBounds_toArray, List.set_cons_zero, List.set_cons_succ]
            refine wpList_runW rfl (.bool true) (by simp [go_sem, hlast.out]) ?_
            simp only [Act.put, List.setIfInBounds_toArray, List.set_cons_zero, List.set_cons_succ]
            refine wpList_runW rfl (.bool true) (by simp [go_sem]) ?_
            simp only [Act.put, List.setIfInBounds_toArray, List.set_cons_zero, List.set_cons_succ]
            refine wpList_run rfl (.bool true) (by simp [go_sem]) ?_
            simp only [Act.put, List.setIfInBounds_toArray, List.set_cons_zero, List.set_cons_succ]
            refine wpList_run rfl (.bool true) (by simp [go_sem]) ?_
            simp only [Act.put, List.setIfInBounds_toArray, List.set_cons_zero, List.set_cons_succ]
            go_wp2
            go_ret
            exact ⟨rfl, L2.out⟩
          · go_upto_region 26 with (fail)
            refine wp_region_lit ?_
            refine wpList_run rfl (.int .i64 110) (by simp [go_sem]) ?_
            simp only [Act.put, List.setIfInBounds_toArray, List.set_cons_zero, List.set_cons_succ]
            refine wpList_run rfl (.bool true) (by simp [go_sem]) ?_
            simp only [Act.put, List.setIfInBounds_toArray, List.set_cons_zero, List.set_cons_succ]
            refine wpList_run rfl (.bool true) (by simp [go_sem]) ?_
            simp only [Act.put, List.setIfInBounds_toArray, List.set_cons_zero, List.set_cons_succ]
            with_reducible refine xnot (by with_unfolding_all rfl) ?_
            simp only [Act.put, List.setIfInBounds_toArray, List.set_cons_zero, List.set_cons_succ]
            with_reducible refine xnot (by with_unfolding_all rfl) ?_
            simp only [Act.put, List.setIfInBounds_toArray, List.set_cons_zero, List.set_cons_succ]
            with_reducible refine xnot (by with_unfolding_all rfl) ?_
            simp only [Act.put, List.setIfInBounds_toArray, List.set_cons_zero, List.set_cons_succ]
            with_reducible refine xnot (by with_unfolding_all rfl) ?_
            simp only [Act.put, List.setIfInBounds_toArray, List.set_cons_zero, List.set_cons_succ]
            with_reducible refine xnot (by with_unfolding_all rfl) ?_
            simp only [Act.put, List.setIfInBounds_toArray, List.set_cons_zero, List.set_cons_succ]
            with_reducible refine xnot (by with_unfolding_all rfl) ?_
            simp only [Act.put, List.setIfInBounds_toArray, List.set_cons_zero, List.set_cons_succ]
            with_reducible refine xnot (by with_unfolding_all rfl) ?_
            simp only [Act.put, List.setIfInBounds_toArray, List.set_cons_zero, List.set_cons_succ]
            with_reducible refine xnot (by with_unfolding_all rfl) ?_
            simp only [Act.put, List.setIfInBounds_toArray, List.set_cons_zero, List.set_cons_succ]
            with_reducible refine xnot (by with_unfolding_all rfl) ?_
            simp only [Act.put, List.setIfInBounds_toArray, List.set_cons_zero, List.set_cons_succ]
            refine wpList_run rfl (.bool true) (by simp [go_sem]) ?_
            simp only [Act.put, List.setIfInBounds_toArray, List.set_cons_zero, List.set_cons_succ]
            refine wpList_run rfl (.bool true) (by simp [go_sem]) ?_
            simp only [Act.put, List.setIfInBounds_toArray, List.set_cons_zero, List.set_cons_succ]
            go_wp2
            go_ret
            exact ⟨rfl, L2.out⟩
      · by_cases qn : qz < 0
        · obtain ⟨k, hk⟩ : ∃ k : Nat, (k : Int) = pz := ⟨(pz).toNat, by omega⟩
          have hki : Hid (k < i) := hideit (by omega)
          go_upto_region 17 with (fail)
          refine wp_region_lit ?_
          refine wpList_run rfl (.int .i64 (pz)) (by simp [go_sem]) ?_
          simp only [Act.put, List.setIfInBounds_toArray, List.set_cons_zero, List.set_cons_succ]
          refine wpList_run rfl (.bool false) (by simp [go_sem, pn]) ?_
          simp only [Act.put, List.setIfInBounds_toArray, List.set_cons_zero, List.set_cons_succ]
          rw [← hk]
          clear hk pn tl tg
          go_upto_region 19 with (fail)
          refine wp_region_lit ?_
          refine wpList_run rfl (.int .i64 (q)) (by simp [go_sem]) ?_
          simp only [Act.put, List.setIfInBounds_toArray, List.set_cons_zero, List.set_cons_succ]
          refine wpList_run rfl (.int .i64 (qz)) (by simp [go_sem, hqz']) ?_
          simp only [Act.put, List.setIfInBounds_toArray, List.set_cons_zero, List.set_cons_succ]
          refine wpList_run rfl (.int .i64 (qz)) (by simp [go_sem]) ?_
          simp only [Act.put, List.setIfInBounds_toArray, List.set_cons_zero, List.set_cons_succ]
          clear hqz'
          obtain ⟨t, ht⟩ : ∃ t : Nat, (t : Int) = qz + 4096 := ⟨(qz + 4096).toNat, by omega⟩
          have ht4 : Hid (t < 4096) := hideit (by omega)
          go_upto_region 20 with (fail)
          refine wp_region_lit ?_
          refine wpList_run rfl (.int .i64 (qz)) (by simp [go_sem]) ?_
          simp only [Act.put, List.setIfInBounds_toArray, List.set_cons_zero, List.set_cons_succ]
          refine wpList_run rfl (.bool true) (by simp [go_sem, qn]) ?_
          simp only [Act.put, List.setIfInBounds_toArray, List.set_cons_zero, List.set_cons_succ]
          have e91 : IntKind.i64.wrap (qz + 4096) = (t : Int) := by rw [IntKind.wrap_i64]; omega
          go_upto_region 21 with (fail)
          refine wp_region_lit ?_
          refine wpList_run rfl (.int .i64 (qz)) (by simp [go_sem]) ?_
          simp only [Act.put, List.setIfInBounds_toArray, List.set_cons_zero, List.set_cons_succ]
          refine wpList_run rfl (.int .i64 (t : Int)) (by simp [go_sem, e91]) ?_
          simp only [Act.put, List.setIfInBounds_toArray, List.set_cons_zero, List.set_cons_succ]
          refine wpList_run rfl (.int .i64 (t : Int)) (by simp [go_sem]) ?_
          simp only [Act.put, List.setIfInBounds_toArray, List.set_cons_zero, List.set_cons_succ]
          clear e91
          clear ht qn ql qg
          go_upto_region 22 with (fail)
          refine wp_region_lit ?_
          have XN : Ext y1 (y1.alloc (.cells #[] 34)) := (Below.refl _ _).alloc (Nat.le_refl _) _
          have hBx := hideit (hB.out.ext XN)
          refine wpList_to rfl (.slice (some ⟨y1.heap.size, 0, none⟩) 0 0) (y1.alloc (.cells #[] 34)) (by simp [go_sem]) ?_
          simp only [Act.put, List.setIfInBounds_toArray, List.set_cons_zero, List.set_cons_succ]
          clear XN
          refine wpList_run rfl (.slice (some a) i vc) (by simp [go_sem]) ?_
          simp only [Act.put, List.setIfInBounds_toArray, List.set_cons_zero, List.set_cons_succ]
          refine wpList_gl rfl (.tmp 92) (.tmp 93) rfl rfl a i vc us rfl (lies_pl hBx.out) (fun j hj => by obtain ⟨z, cp, h⟩ := hus.out j hj; rw [h]; rfl) (by have := m3.out; omega) (by have := m3.out; omega) ?_
          intro g gc w4 hR hg4 hgc hX4
          simp only [Act.put, List.setIfInBounds_toArray, List.set_cons_zero, List.set_cons_succ]
          have hA : Hid (AllB w4.heap.size g i us F w4) := fun j hj => by
            obtain ⟨z', cp', h', hcp, hl', _⟩ := hB.out.byt j hj
            have h1 : z' < y1.heap.size := hl'.2
            have h2 := Below.size hX4
            exact ⟨z', cp', h', hcp, hl'.carry hX4, by omega, by omega⟩
          have hwg : Hid (w.heap.size ≤ g) := hideit (Nat.le_trans (Below.size hX.out) hg4)
          replace hB := hideit (hB.out.ext hX4)
          replace hT := hideit (hT.out.ext hX4)
          replace hX := hideit (Ext.trans hX.out hX4)
          replace hR := hideit hR
          have hgc2 : Hid (i ≤ gc) := hideit hgc
          clear hBx hX4 hg4 hgc
          refine wpList_run rfl (.slice (some ⟨g, 0, none⟩) i gc) (by simp [go_sem]) ?_
          simp only [Act.put, List.setIfInBounds_toArray, List.set_cons_zero, List.set_cons_succ]
          obtain ⟨z, zc, hzu⟩ := hus.out k hki.out
          obtain ⟨a', ha, hel⟩ := hB.out.pl.at k hki.out
          injection ha with ha
          subst ha
          rw [hzu] at hel
          have k1 : (k : Int) < (i : Int) := by have := hki.out; omega
          have hbz : Hid (BV (.slice (some ⟨z, 0, none⟩) 512 zc) 512 (F k) w4) := hideit (by have := hB.out.parts.2 k hki.out; rw [hzu] at this; exact this)
          have hRg0 : Hid (g < w4.heap.size) := hideit hR.out.2.2
          go_upto_region 23 with (fail)
          refine wp_region_lit ?_
          refine wpList_run rfl (.slice (some ⟨g, 0, none⟩) i gc) (by simp [go_sem]) ?_
          simp only [Act.put, List.setIfInBounds_toArray, List.set_cons_zero, List.set_cons_succ]
          refine wpList_run rfl (.int .i64 (k : Int)) (by simp [go_sem]) ?_
          simp only [Act.put, List.setIfInBounds_toArray, List.set_cons_zero, List.set_cons_succ]
          have XN : Ext w4 (w4.alloc (.cells #[] 5)) := (Below.refl _ _).alloc (Nat.le_refl _) _
          have G0 := hideit (GB.empty w4 (Ext.refl w4) (F k))
          have hel' := cell_ext' XN hel
          replace hbz := hideit (hbz.out.ext XN)
          refine wpList_to rfl (.slice (some ⟨w4.heap.size, 0, none⟩) 0 0) (w4.alloc (.cells #[] 5)) (by simp [go_sem]) ?_
          simp only [Act.put, List.setIfInBounds_toArray, List.set_cons_zero, List.set_cons_succ]
          clear XN hel
          generalize w4.alloc (.cells #[] 5) = w5 at G0 hel' hbz ⊢
          obtain ⟨g5, hg5⟩ : ∃ g, g = w4.heap.size := ⟨_, rfl⟩
          rw [← hg5] at G0 ⊢
          clear hg5
          refine wpList_run rfl (.slice (some a) i vc) (by simp [go_sem]) ?_
          simp only [Act.put, List.setIfInBounds_toArray, List.set_cons_zero, List.set_cons_succ]
          refine wpList_run rfl (.int .i64 (k : Int)) (by simp [go_sem]) ?_
          simp only [Act.put, List.setIfInBounds_toArray, List.set_cons_zero, List.set_cons_succ]
          refine wpList_run rfl (.pointer (some (a.add k))) (by simp [go_sem, k1]) ?_
          simp only [Act.put, List.setIfInBounds_toArray, List.set_cons_zero, List.set_cons_succ]
          refine wpList_run rfl (.slice (some ⟨z, 0, none⟩) 512 zc) (by simp [go_sem, hel']) ?_
          simp only [Act.put, List.setIfInBounds_toArray, List.set_cons_zero, List.set_cons_succ]
          refine wpList_gb rfl (.tmp 97) (.tmp 101) rfl rfl G0.out (.slice (some ⟨z, 0, none⟩) 512 zc) 512 (F k) rfl hbz.out (by decide) ?_
          intro v6 w6 hG6
          replace hG6 : GB w4 v6 512 (F k) w6 := hG6.congr (by decide) fun j hj => by unfold catF; rw [if_neg (by omega), Nat.sub_zero]
          obtain ⟨d, dc, rfl, hd4, hdc, _, hRd⟩ := hG6.1.lies (by decide)
          simp only [Act.put, List.setIfInBounds_toArray, List.set_cons_zero, List.set_cons_succ]
          have hX6 := hG6.2
          replace hR := hideit (hR.out.carry hX6)
          replace hA := hideit (hA.out.ext hX6)
          replace hT := hideit (hT.out.ext hX6)
          replace hX := hideit (Ext.trans hX.out hX6)
          have hgd : Hid (g ≠ d) := hideit (by
            intro e
            have := hRg0.out
            omega)
          have hwd : Hid (w.heap.size ≤ d) := hideit (Nat.le_trans (Nat.le_trans hwg.out (Nat.le_of_lt hRg0.out)) hd4)
          replace hRd := hideit hRd
          have hd4' := hideit hd4
          have hdc2 := hideit hdc
          clear G0 hbz hG6 hX6 hd4 hel' hdc hB
          refine wpList_run rfl (.pointer (some ⟨g, k, none⟩)) (by simp [go_sem, k1]) ?_
          simp only [Act.put, List.setIfInBounds_toArray, List.set_cons_zero, List.set_cons_succ]
          have M0 : w6.cell? ⟨g, k, none⟩ = some (us k) := hR.out.1 k hki.out
          have M1 : w6.frozen? ⟨g, k, none⟩ = false := hR.out.2.1 k hki.out
          have N0 := hideit (hR.out.set k (.slice (some ⟨d, 0, none⟩) 512 dc))
          have N1 := hideit (hRd.out.other ⟨g, k, none⟩ (.slice (some ⟨d, 0, none⟩) 512 dc) hgd.out)
          have N2 : Hid (Ext w (w6.setCell ⟨g, k, none⟩ (.slice (some ⟨d, 0, none⟩) 512 dc))) := Below.setCell hX.out (p := ⟨g, k, none⟩) hwg.out _
          have N3 := hideit (hA.out.set ⟨g, k, none⟩ (.slice (some ⟨d, 0, none⟩) 512 dc) (.inl rfl))
          have N4 : Hid (TabC (w6.setCell ⟨g, k, none⟩ (.slice (some ⟨d, 0, none⟩) 512 dc))) := tabc_set hT.out _ _ (by show g ≠ 0; have := hwg.out; have := hw0.out; omega)
          refine xst rfl (w6.setCell ⟨g, k, none⟩ (.slice (some ⟨d, 0, none⟩) 512 dc)) (by simp [go_sem, M0, M1]) ?_
          simp only [Act.put]
          generalize w6.setCell ⟨g, k, none⟩ (.slice (some ⟨d, 0, none⟩) 512 dc) = w7 at N0 N1 N2 N3 N4 ⊢
          clear M0 M1 hR hRd hX hA hT
          have t8 : t / 8 < 512 := by have := ht4.out; omega
          have t8i : ((t / 8 : Nat) : Int) < 512 := by omega
          have e109 : IntKind.i64.wrap ((t : Int) / 8) = ((t / 8 : Nat) : Int) := by
            rw [IntKind.wrap_i64]
            omega
          have e119 : (t : Int).tmod 8 = ((t % 8 : Nat) : Int) := by
            rw [Int.tmod_eq_emod_of_nonneg (by omega)]
            omega
          obtain ⟨r, hr⟩ : ∃ r, r = t % 8 := ⟨_, rfl⟩
          obtain ⟨bt, hbt, hb1, hb2⟩ := bit8 (t % 8) (by omega)
          rw [← hr] at e119 hb1 hb2
          have hr8 : r < 8 := by omega
          obtain ⟨e, he⟩ : ∃ e, e = t / 8 := ⟨_, rfl⟩
          rw [← he] at t8 t8i e109
          have xf := x8_fact (F k e) bt
          replace he := hideit he
          replace hr := hideit hr
          replace hbt := hideit hbt
          replace t8 := hideit t8
          clear hr8
          go_upto_region 24 with (fail)
          replace N0 := hideit N0.out.drew
          replace N1 := hideit N1.out.drew
          replace N3 := hideit (N3.out.ext (Ext.draw (Ext.refl w7)))
          replace N4 := hideit (N4.out.ext (Ext.draw (Ext.refl w7)))
          replace N2 := hideit (Ext.draw N2.out)
          refine wp_region_ladz (fun X => Ext w7.drew X) [19] [(false, 0), (false, 1), (false, 2), (false, 3), (false, 4), (false, 5), (false, 6), (false, 7), (false, 8), (false, 9), (false, 10), (false, 11), (false, 12), (false, 13), (false, 14), (false, 15), (false, 16), (false, 17), (false, 18), (true, 19)] (by kernel_rfl) (by kernel_rfl) (by decide +kernel) (by decide +kernel) (by decide +kernel) (by decide +kernel) (Ext.refl _) ?_
          refine wpZ_f _ (.slice (some ⟨g, 0, none⟩) i gc) rfl rfl (fun X _ => by simp [go_sem]) ?_
          simp only [List.getElem_toArray, List.getElem_cons_zero, Act.put, List.setIfInBounds_toArray, List.set_cons_zero, List.set_cons_succ]
          refine wpZ_f _ (.int .i64 (k : Int)) rfl rfl (fun X _ => by simp [go_sem]) ?_
          simp only [List.getElem_toArray, List.getElem_cons_zero, List.getElem_cons_succ, Act.put, List.setIfInBounds_toArray, List.set_cons_zero, List.set_cons_succ]
          refine wpZ_f _ (.pointer (some ⟨g, k, none⟩)) rfl rfl (fun X _ => by simp [go_sem, k1]) ?_
          simp only [List.getElem_toArray, List.getElem_cons_zero, List.getElem_cons_succ, Act.put, List.setIfInBounds_toArray, List.set_cons_zero, List.set_cons_succ]
          refine wpZ_f _ (.slice (some ⟨d, 0, none⟩) 512 dc) rfl rfl (fun X hX => (by have q := (N0.out.carry hX).1 k hki.out; simp only [if_pos] at q; simp [go_sem, q])) ?_
          simp only [List.getElem_toArray, List.getElem_cons_zero, List.getElem_cons_succ, Act.put, List.setIfInBounds_toArray, List.set_cons_zero, List.set_cons_succ]
          refine wpZ_f _ (.int .i64 (t : Int)) rfl rfl (fun X _ => by simp [go_sem]) ?_
          simp only [List.getElem_toArray, List.getElem_cons_zero, List.getElem_cons_succ, Act.put, List.setIfInBounds_toArray, List.set_cons_zero, List.set_cons_succ]
          refine wpZ_f _ (.int .i64 (e : Int)) rfl rfl (fun X _ => by simp [go_sem, e109]) ?_
          simp only [List.getElem_toArray, List.getElem_cons_zero, List.getElem_cons_succ, Act.put, List.setIfInBounds_toArray, List.set_cons_zero, List.set_cons_succ]
          refine wpZ_f _ (.slice (some ⟨g, 0, none⟩) i gc) rfl rfl (fun X _ => by simp [go_sem]) ?_
          simp only [List.getElem_toArray, List.getElem_cons_zero, List.getElem_cons_succ, Act.put, List.setIfInBounds_toArray, List.set_cons_zero, List.set_cons_succ]
          refine wpZ_f _ (.int .i64 (k : Int)) rfl rfl (fun X _ => by simp [go_sem]) ?_
          simp only [List.getElem_toArray, List.getElem_cons_zero, List.getElem_cons_succ, Act.put, List.setIfInBounds_toArray, List.set_cons_zero, List.set_cons_succ]
          refine wpZ_f _ (.pointer (some ⟨g, k, none⟩)) rfl rfl (fun X _ => by simp [go_sem, k1]) ?_
          simp only [List.getElem_toArray, List.getElem_cons_zero, List.getElem_cons_succ, Act.put, List.setIfInBounds_toArray, List.set_cons_zero, List.set_cons_succ]
          refine wpZ_f _ (.slice (some ⟨d, 0, none⟩) 512 dc) rfl rfl (fun X hX => (by have q := (N0.out.carry hX).1 k hki.out; simp only [if_pos] at q; simp [go_sem, q])) ?_
          simp only [List.getElem_toArray, List.getElem_cons_zero, List.getElem_cons_succ, Act.put, List.setIfInBounds_toArray, List.set_cons_zero, List.set_cons_succ]
          refine wpZ_f _ (.int .i64 (t : Int)) rfl rfl (fun X _ => by simp [go_sem]) ?_
          simp only [List.getElem_toArray, List.getElem_cons_zero, List.getElem_cons_succ, Act.put, List.setIfInBounds_toArray, List.set_cons_zero, List.set_cons_succ]
          refine wpZ_f _ (.int .i64 (e : Int)) rfl rfl (fun X _ => by simp [go_sem, e109]) ?_
          simp only [List.getElem_toArray, List.getElem_cons_zero, List.getElem_cons_succ, Act.put, List.setIfInBounds_toArray, List.set_cons_zero, List.set_cons_succ]
          refine wpZ_f _ (.pointer (some ⟨d, e, none⟩)) rfl rfl (fun X _ => by simp [go_sem, t8i]) ?_
          simp only [List.getElem_toArray, List.getElem_cons_zero, List.getElem_cons_succ, Act.put, List.setIfInBounds_toArray, List.set_cons_zero, List.set_cons_succ]
          refine wpZ_f _ (.int .u8 ((F k e).toNat : Int)) rfl rfl (fun X hX => (by have q := (N1.out.carry hX).1 e t8.out; simp only [yv] at q; simp [go_sem, q])) ?_
          simp only [List.getElem_toArray, List.getElem_cons_zero, List.getElem_cons_succ, Act.put, List.setIfInBounds_toArray, List.set_cons_zero, List.set_cons_succ]
          refine wpZ_f _ (.int .i64 (t : Int)) rfl rfl (fun X _ => by simp [go_sem]) ?_
          simp only [List.getElem_toArray, List.getElem_cons_zero, List.getElem_cons_succ, Act.put, List.setIfInBounds_toArray, List.set_cons_zero, List.set_cons_succ]
          refine wpZ_f _ (.int .i64 (r : Int)) rfl rfl (fun X _ => by simp [go_sem, e119]) ?_
          simp only [List.getElem_toArray, List.getElem_cons_zero, List.getElem_cons_succ, Act.put, List.setIfInBounds_toArray, List.set_cons_zero, List.set_cons_succ]
          refine wpZ_f _ (.int .u8 (bt.toNat : Int)) rfl rfl (fun X _ => by simp [go_sem, hb1]) ?_
          simp only [List.getElem_toArray, List.getElem_cons_zero, List.getElem_cons_succ, Act.put, List.setIfInBounds_toArray, List.set_cons_zero, List.set_cons_succ]
          refine wpZ_f _ (.int .u8 ((F k e ^^^ bt).toNat : Int)) rfl rfl (fun X _ => by simp [go_sem, xf]) ?_
          simp only [List.getElem_toArray, List.getElem_cons_zero, List.getElem_cons_succ, Act.put, List.setIfInBounds_toArray, List.set_cons_zero, List.set_cons_succ]
          refine wpZ_f _ (.pointer (some ⟨d, e, none⟩)) rfl rfl (fun X _ => by simp [go_sem, t8i]) ?_
          simp only [List.getElem_toArray, List.getElem_cons_zero, List.getElem_cons_succ, Act.put, List.setIfInBounds_toArray, List.set_cons_zero, List.set_cons_succ]
          have M0 : w7.drew.cell? ⟨d, e, none⟩ = some (yv (F k) e) := N1.out.1 e t8.out
          have M1 : w7.drew.frozen? ⟨d, e, none⟩ = false := N1.out.2.1 e t8.out
          have L0 := hideit (N0.out.other ⟨d, e, none⟩ (.int .u8 ((F k e ^^^ bt).toNat : Int)) (Ne.symm hgd.out))
          have L1 := hideit ((N1.out.set e (.int .u8 ((F k e ^^^ bt).toNat : Int))).congr (g' := yv fun j => if j = e then F k e ^^^ bt else F k j) fun j hj => by by_cases h : j = e <;> simp [yv, h])
          have L2 : Hid (Ext w (w7.drew.setCell ⟨d, e, none⟩ (.int .u8 ((F k e ^^^ bt).toNat : Int)))) := Below.setCell N2.out (p := ⟨d, e, none⟩) hwd.out _
          have L3 := hideit (N3.out.set ⟨d, e, none⟩ (.int .u8 ((F k e ^^^ bt).toNat : Int)) (.inr hd4'.out))
          have L4 : Hid (TabC (w7.drew.setCell ⟨d, e, none⟩ (.int .u8 ((F k e ^^^ bt).toNat : Int)))) := tabc_set N4.out _ _ (by show d ≠ 0; have := hwd.out; have := hw0.out; omega)
          refine wpZ_st _ (w7.drew.setCell ⟨d, e, none⟩ (.int .u8 ((F k e ^^^ bt).toNat : Int))) rfl rfl (by simp [go_sem, M0, M1]) (fun _ => True) (.inl (by simp)) trivial ?_
          simp only [List.getElem_toArray, List.getElem_cons_zero, List.getElem_cons_succ, Act.put]
          generalize w7.drew.setCell ⟨d, e, none⟩ (.int .u8 ((F k e ^^^ bt).toNat : Int)) = w8 at L0 L1 L2 L3 L4 ⊢
          clear M0 M1 N0 N1 N2 N3 N4
          refine wpZ_nil ?_
          obtain ⟨hPL, hBV⟩ := all_pl L3.out hgc2.out L0.out L1.out hdc2.out
          replace hPL := hideit hPL
          replace hBV := hideit hBV
          clear L0 L1 L3 t8i e109 e119 hb1 hb2 xf
          go_upto_region 25 with (fail)
          refine wp_region_lit ?_
          refine wpList_run rfl (.int .u64 (x.toNat : Int)) (by simp [go_sem]) ?_
          simp only [Act.put, List.setIfInBounds_toArray, List.set_cons_zero, List.set_cons_succ]
          refine wpList_run rfl (.slice (some ⟨g, 0, none⟩) i gc) (by simp [go_sem]) ?_
          simp only [Act.put, List.setIfInBounds_toArray, List.set_cons_zero, List.set_cons_succ]
          refine wpList_call rfl (by simp [go_sem]) ((parse_code x (.slice (some ⟨g, 0, none⟩) i gc) i (fun j => if j = k then .slice (some ⟨d, 0, none⟩) 512 dc else us j) (fun _ => 512) (fun j => if j = k then (fun j => if j = e then F k e ^^^ bt else F k j) else F j) w8 L4.out hPL.out (fun _ => hBV.out 0 (by have := m3.out; omega)) (fun _ _ => by decide) (by have := m3.out; omega)).mono ?_)
          rintro e y9 ⟨pv2, pc2, r2, rfl, hr2, hX9⟩
          refine ⟨_, rfl, ?_⟩
          simp only [Act.put, List.setIfInBounds_toArray, List.set_cons_zero, List.set_cons_succ]
          replace L4 := hideit (L4.out.ext hX9)
          replace L2 := hideit (Ext.trans L2.out hX9)
          clear hX9 hPL hBV
          refine wpList_run rfl (.tuple #[pv2, pc2, .int .i64 (r2)]) (by simp [go_sem]) ?_
          simp only [Act.put, List.setIfInBounds_toArray, List.set_cons_zero, List.set_cons_succ]
          refine wpList_run rfl (pv2) (by simp [go_sem]) ?_
          simp only [Act.put, List.setIfInBounds_toArray, List.set_cons_zero, List.set_cons_succ]
          refine wpList_run rfl (pc2) (by simp [go_sem]) ?_
          simp only [Act.put, List.setIfInBounds_toArray, List.set_cons_zero, List.set_cons_succ]
          refine wpList_run rfl (.int .i64 (r2)) (by simp [go_sem]) ?_
          simp only [Act.put, List.setIfInBounds_toArray, List.set_cons_zero, List.set_cons_succ]
          refine wpList_run rfl (pv2) (by simp [go_sem]) ?_
          simp only [Act.put, List.setIfInBounds_toArray, List.set_cons_zero, List.set_cons_succ]
          refine wpList_run rfl (pc2) (by simp [go_sem]) ?_
          simp only [Act.put, List.setIfInBounds_toArray, List.set_cons_zero, List.set_cons_succ]
          refine wpList_run rfl (.int .i64 (r2)) (by simp [go_sem]) ?_
          simp only [Act.put, List.setIfInBounds_toArray, List.set_cons_zero, List.set_cons_succ]
          rcases hr2 with ⟨h2, rfl⟩ | ⟨_, rfl⟩
          · have hlast : Hid ((k : Int) < (i : Int) - 1) := hideit (by
              by_cases hq : k = n + 1
              · exfalso
                refine tx_no hok.out (fun _ _ => rfl) (fun j hj => ?_) e t8.out ?_ h2
                · show (if j = k then _ else F j) = _
                  rw [if_neg (by omega), hF.out]
                · show (if n + 1 = k then _ else F (n + 1)) e ≠ _
                  rw [if_pos hq.symm, ← hF.out]
                  show (if e = e then _ else _) ≠ _
                  rw [if_pos rfl, ← hq]
                  exact xor_ne _ _ hbt.out
              · have := hki.out
                have := hm.out
                omega)
            have e139 : IntKind.i64.wrap ((i : Int) - 1) = (i : Int) - 1 := by have := m3.out; rw [IntKind.wrap_i64]; omega
            go_upto_region 26 with (fail)
            refine wp_region_lit ?_
            refine wpList_run rfl (.int .i64 0) (by simp [go_sem]) ?_
            simp only [Act.put, List.setIfInBounds_toArray, List.set_cons_zero, List.set_cons_succ]
            refine wpList_run rfl (.bool false) (by simp [go_sem]) ?_
            simp only [Act.put, List.setIfInBounds_toArray, List.set_cons_zero, List.set_cons_succ]
            refine wpList_run rfl (.bool false) (by simp [go_sem]) ?_
            simp only [Act.put, List.setIfInBounds_toArray, List.set_cons_zero, List.set_cons_succ]
            refine wpList_runW rfl (.int .i64 0) (by simp [go_sem]) ?_
            simp only [Act.put, List.setIfInBounds_toArray, List.set_cons_zero, List.set_cons_succ]
            refine wpList_runW rfl (.bool true) (by simp [go_sem]) ?_
            simp only [Act.put, List.setIfInBounds_toArray, List.set_cons_zero, List.set_cons_succ]
            refine wpList_runW rfl (.bool true) (by simp [go_sem]) ?_
            simp only [Act.put, List.setIfInBounds_toArray, List.set_cons_zero, List.set_cons_succ]
            refine wpList_runW rfl (.int .i64 (k : Int)) (by simp [go_sem]) ?_
            simp only [Act.put, List.setIfInBounds_toArray, List.set_cons_zero, List.set_cons_succ]
            refine wpList_runW rfl (.slice (some a) i vc) (by simp [go_sem]) ?_
            simp only [Act.put, List.setIfInBounds_toArray, List.set_cons_zero, List.set_cons_succ]
            refine wpList_runW rfl (.int .i64 (i : Int)) (by simp [go_sem]) ?_
            simp only [Act.put, List.setIfInBounds_toArray, List.set_cons_zero, List.set_cons_succ]
            refine wpList_runW rfl (.int .i64 ((i : Int) - 1)) (by simp [go_sem, e139]) ?_
            simp only [Act.put, List.setIfInBounds_toArray, List.set_cons_zero, List.set_cons_succ]
            refine wpList_runW rfl (.bool true) (by simp [go_sem, hlast.out]) ?_
            simp only [Act.put, List.setIfInBounds_toArray, List.set_cons_zero, List.set_cons_succ]
            refine wpList_runW rfl (.bool true) (by simp [go_sem]) ?_
            simp only [Act.put, List.setIfInBounds_toArray, List.set_cons_zero, List.set_cons_succ]
            refine wpList_run rfl (.bool true) (by simp [go_sem]) ?_
            simp only [Act.put, List.setIfInBounds_toArray, List.set_cons_zero, List.set_cons_succ]
            refine wpList_run rfl (.bool true) (by simp [go_sem]) ?_
            simp only [Act.put, List.setIfInBounds_toArray, List.set_cons_zero, List.set_cons_succ]
            go_wp2
            go_ret
            exact ⟨rfl, L2.out⟩
          · go_upto_region 26 with (fail)
            refine wp_region_lit ?_
            refine wpList_run rfl (.int .i64 110) (by simp [go_sem]) ?_
            simp only [Act.put, List.setIfInBounds_toArray, List.set_cons_zero, List.set_cons_succ]
            refine wpList_run rfl (.bool true) (by simp [go_sem]) ?_
            simp only [Act.put, List.setIfInBounds_toArray, List.set_cons_zero, List.set_cons_succ]
            refine wpList_run rfl (.bool true) (by simp [go_sem]) ?_
            simp only [Act.put, List.setIfInBounds_toArray, List.set_cons_zero, List.set_cons_succ]
            with_reducible refine xnot (by with_unfolding_all rfl) ?_
            simp only [Act.put, List.setIfInBounds_toArray, List.set_cons_zero, List.set_cons_succ]
            with_reducible refine xnot (by with_unfolding_all rfl) ?_
            simp only [Act.put, List.setIfInBounds_toArray, List.set_cons_zero, List.set_cons_succ]
            with_reducible refine xnot (by with_unfolding_all rfl) ?_
            simp only [Act.put, List.setIfInBounds_toArray, List.set_cons_zero, List.set_cons_succ]
            with_reducible refine xnot (by with_unfolding_all rfl) ?_
            simp only [Act.put, List.setIfInBounds_toArray, List.set_cons_zero, List.set_cons_succ]
            with_reducible refine xnot (by with_unfolding_all rfl) ?_
            simp only [Act.put, List.setIfInBounds_toArray, List.set_cons_zero, List.set_cons_succ]
            with_reducible refine xnot (by with_unfolding_all rfl) ?_
            simp only [Act.put, List.setIfInBounds_toArray, List.set_cons_zero, List.set_cons_succ]
            with_reducible refine xnot (by with_unfolding_all rfl) ?_
            simp only [Act.put, List.setIfInBounds_toArray, List.set_cons_zero, List.set_cons_succ]
            with_reducible refine xnot (by with_unfolding_all rfl) ?_
            simp only [Act.put, List.setIfInBounds_toArray, List.set_cons_zero, List.set_cons_succ]
            with_reducible refine xnot (by with_unfolding_all rfl) ?_
            simp only [Act.put, List.setIfInBounds_toArray, List.set_cons_zero, List.set_cons_succ]
            refine wpList_run rfl (.bool true) (by simp [go_sem]) ?_
            simp only [Act.put, List.setIfInBounds_toArray, List.set_cons_zero, List.set_cons_succ]
            refine wpList_run rfl (.bool true) (by simp [go_sem]) ?_
            simp only [Act.put, List.setIfInBounds_toArray, List.set_cons_zero, List.set_cons_succ]
            go_wp2
            go_ret
            exact ⟨rfl, L2.out⟩
        · obtain ⟨k, hk⟩ : ∃ k : Nat, (k : Int) = pz := ⟨(pz).toNat, by omega⟩
          have hki : Hid (k < i) := hideit (by omega)
          go_upto_region 17 with (fail)
          refine wp_region_lit ?_
          refine wpList_run rfl (.int .i64 (pz)) (by simp [go_sem]) ?_
          simp only [Act.put, List.setIfInBounds_toArray, List.set_cons_zero, List.set_cons_succ]
          refine wpList_run rfl (.bool false) (by simp [go_sem, pn]) ?_
          simp only [Act.put, List.setIfInBounds_toArray, List.set_cons_zero, List.set_cons_succ]
          rw [← hk]
          clear hk pn tl tg
          go_upto_region 19 with (fail)
          refine wp_region_lit ?_
          refine wpList_run rfl (.int .i64 (q)) (by simp [go_sem]) ?_
          simp only [Act.put, List.setIfInBounds_toArray, List.set_cons_zero, List.set_cons_succ]
          refine wpList_run rfl (.int .i64 (qz)) (by simp [go_sem, hqz']) ?_
          simp only [Act.put, List.setIfInBounds_toArray, List.set_cons_zero, List.set_cons_succ]
          refine wpList_run rfl (.int .i64 (qz)) (by simp [go_sem]) ?_
          simp only [Act.put, List.setIfInBounds_toArray, List.set_cons_zero, List.set_cons_succ]
          clear hqz'
          obtain ⟨t, ht⟩ : ∃ t : Nat, (t : Int) = qz := ⟨(qz).toNat, by omega⟩
          have ht4 : Hid (t < 4096) := hideit (by omega)
          go_upto_region 20 with (fail)
          refine wp_region_lit ?_
          refine wpList_run rfl (.int .i64 (qz)) (by simp [go_sem]) ?_
          simp only [Act.put, List.setIfInBounds_toArray, List.set_cons_zero, List.set_cons_succ]
          refine wpList_run rfl (.bool false) (by simp [go_sem, qn]) ?_
          simp only [Act.put, List.setIfInBounds_toArray, List.set_cons_zero, List.set_cons_succ]
          rw [← ht]
          clear ht qn ql qg
          go_upto_region 22 with (fail)
          refine wp_region_lit ?_
          have XN : Ext y1 (y1.alloc (.cells #[] 34)) := (Below.refl _ _).alloc (Nat.le_refl _) _
          have hBx := hideit (hB.out.ext XN)
          refine wpList_to rfl (.slice (some ⟨y1.heap.size, 0, none⟩) 0 0) (y1.alloc (.cells #[] 34)) (by simp [go_sem]) ?_
          simp only [Act.put, List.setIfInBounds_toArray, List.set_cons_zero, List.set_cons_succ]
          clear XN
          refine wpList_run rfl (.slice (some a) i vc) (by simp [go_sem]) ?_
          simp only [Act.put, List.setIfInBounds_toArray, List.set_cons_zero, List.set_cons_succ]
          refine wpList_gl rfl (.tmp 92) (.tmp 93) rfl rfl a i vc us rfl (lies_pl hBx.out) (fun j hj => by obtain ⟨z, cp, h⟩ := hus.out j hj; rw [h]; rfl) (by have := m3.out; omega) (by have := m3.out; omega) ?_
          intro g gc w4 hR hg4 hgc hX4
          simp only [Act.put, List.setIfInBounds_toArray, List.set_cons_zero, List.set_cons_succ]
          have hA : Hid (AllB w4.heap.size g i us F w4) := fun j hj => by
            obtain ⟨z', cp', h', hcp, hl', _⟩ := hB.out.byt j hj
            have h1 : z' < y1.heap.size := hl'.2
            have h2 := Below.size hX4
            exact ⟨z', cp', h', hcp, hl'.carry hX4, by omega, by omega⟩
          have hwg : Hid (w.heap.size ≤ g) := hideit (Nat.le_trans (Below.size hX.out) hg4)
          replace hB := hideit (hB.out.ext hX4)
          replace hT := hideit (hT.out.ext hX4)
          replace hX := hideit (Ext.trans hX.out hX4)
          replace hR := hideit hR
          have hgc2 : Hid (i ≤ gc) := hideit hgc
          clear hBx hX4 hg4 hgc
          refine wpList_run rfl (.slice (some ⟨g, 0, none⟩) i gc) (by simp [go_sem]) ?_
          simp only [Act.put, List.setIfInBounds_toArray, List.set_cons_zero, List.set_cons_succ]
          obtain ⟨z, zc, hzu⟩ := hus.out k hki.out
          obtain ⟨a', ha, hel⟩ := hB.out.pl.at k hki.out
          injection ha with ha
          subst ha
          rw [hzu] at hel
          have k1 : (k : Int) < (i : Int) := by have := hki.out; omega
          have hbz : Hid (BV (.slice (some ⟨z, 0, none⟩) 512 zc) 512 (F k) w4) := hideit (by have := hB.out.parts.2 k hki.out; rw [hzu] at this; exact this)
          have hRg0 : Hid (g < w4.heap.size) := hideit hR.out.2.2
          go_upto_region 23 with (fail)
          refine wp_region_lit ?_
          refine wpList_run rfl (.slice (some ⟨g, 0, none⟩) i gc) (by simp [go_sem]) ?_
          simp only [Act.put, List.setIfInBounds_toArray, List.set_cons_zero, List.set_cons_succ]
          refine wpList_run rfl (.int .i64 (k : Int)) (by simp [go_sem]) ?_
          simp only [Act.put, List.setIfInBounds_toArray, List.set_cons_zero, List.set_cons_succ]
          have XN : Ext w4 (w4.alloc (.cells #[] 5)) := (Below.refl _ _).alloc (Nat.le_refl _) _
          have G0 := hideit (GB.empty w4 (Ext.refl w4) (F k))
          have hel' := cell_ext' XN hel
          replace hbz := hideit (hbz.out.ext XN)
          refine wpList_to rfl (.slice (some ⟨w4.heap.size, 0, none⟩) 0 0) (w4.alloc (.cells #[] 5)) (by simp [go_sem]) ?_
          simp only [Act.put, List.setIfInBounds_toArray, List.set_cons_zero, List.set_cons_succ]
          clear XN hel
          generalize w4.alloc (.cells #[] 5) = w5 at G0 hel' hbz ⊢
          obtain ⟨g5, hg5⟩ : ∃ g, g = w4.heap.size := ⟨_, rfl⟩
          rw [← hg5] at G0 ⊢
          clear hg5
          refine wpList_run rfl (.slice (some a) i vc) (by simp [go_sem]) ?_
          simp only [Act.put, List.setIfInBounds_toArray, List.set_cons_zero, List.set_cons_succ]
          refine wpList_run rfl (.int .i64 (k : Int)) (by simp [go_sem]) ?_
          simp only [Act.put, List.setIfInBounds_toArray, List.set_cons_zero, List.set_cons_succ]
          refine wpList_run rfl (.pointer (some (a.add k))) (by simp [go_sem, k1]) ?_
          simp only [Act.put, List.setIfInBounds_toArray, List.set_cons_zero, List.set_cons_succ]
          refine wpList_run rfl (.slice (some ⟨z, 0, none⟩) 512 zc) (by simp [go_sem, hel']) ?_
          simp only [Act.put, List.setIfInBounds_toArray, List.set_cons_zero, List.set_cons_succ]
          refine wpList_gb rfl (.tmp 97) (.tmp 101) rfl rfl G0.out (.slice (some ⟨z, 0, none⟩) 512 zc) 512 (F k) rfl hbz.out (by decide) ?_
          intro v6 w6 hG6
          replace hG6 : GB w4 v6 512 (F k) w6 := hG6.congr (by decide) fun j hj => by unfold catF; rw [if_neg (by omega), Nat.sub_zero]
          obtain ⟨d, dc, rfl, hd4, hdc, _, hRd⟩ := hG6.1.lies (by decide)
          simp only [Act.put, List.setIfInBounds_toArray, List.set_cons_zero, List.set_cons_succ]
          have hX6 := hG6.2
          replace hR := hideit (hR.out.carry hX6)
          replace hA := hideit (hA.out.ext hX6)
          replace hT := hideit (hT.out.ext hX6)
          replace hX := hideit (Ext.trans hX.out hX6)
          have hgd : Hid (g ≠ d) := hideit (by
            intro e
            have := hRg0.out
            omega)
          have hwd : Hid (w.heap.size ≤ d) := hideit (Nat.le_trans (Nat.le_trans hwg.out (Nat.le_of_lt hRg0.out)) hd4)
          replace hRd := hideit hRd
          have hd4' := hideit hd4
          have hdc2 := hideit hdc
          clear G0 hbz hG6 hX6 hd4 hel' hdc hB
          refine wpList_run rfl (.pointer (some ⟨g, k, none⟩)) (by simp [go_sem, k1]) ?_
          simp only [Act.put, List.setIfInBounds_toArray, List.set_cons_zero, List.set_cons_succ]
          have M0 : w6.cell? ⟨g, k, none⟩ = some (us k) := hR.out.1 k hki.out
          have M1 : w6.frozen? ⟨g, k, none⟩ = false := hR.out.2.1 k hki.out
          have N0 := hideit (hR.out.set k (.slice (some ⟨d, 0, none⟩) 512 dc))
          have N1 := hideit (hRd.out.other ⟨g, k, none⟩ (.slice (some ⟨d, 0, none⟩) 512 dc) hgd.out)
          have N2 : Hid (Ext w (w6.setCell ⟨g, k, none⟩ (.slice (some ⟨d, 0, none⟩) 512 dc))) := Below.setCell hX.out (p := ⟨g, k, none⟩) hwg.out _
          have N3 := hideit (hA.out.set ⟨g, k, none⟩ (.slice (some ⟨d, 0, none⟩) 512 dc) (.inl rfl))
          have N4 : Hid (TabC (w6.setCell ⟨g, k, none⟩ (.slice (some ⟨d, 0, none⟩) 512 dc))) := tabc_set hT.out _ _ (by show g ≠ 0; have := hwg.out; have := hw0.out; omega)
          refine xst rfl (w6.setCell ⟨g, k, none⟩ (.slice (some ⟨d, 0, none⟩) 512 dc)) (by simp [go_sem, M0, M1]) ?_
          simp only [Act.put]
          generalize w6.setCell ⟨g, k, none⟩ (.slice (some ⟨d, 0, none⟩) 512 dc) = w7 at N0 N1 N2 N3 N4 ⊢
          clear M0 M1 hR hRd hX hA hT
          have t8 : t / 8 < 512 := by have := ht4.out; omega
          have t8i : ((t / 8 : Nat) : Int) < 512 := by omega
          have e109 : IntKind.i64.wrap ((t : Int) / 8) = ((t / 8 : Nat) : Int) := by
            rw [IntKind.wrap_i64]
            omega
          have e119 : (t : Int).tmod 8 = ((t % 8 : Nat) : Int) := by
            rw [Int.tmod_eq_emod_of_nonneg (by omega)]
            omega
          obtain ⟨r, hr⟩ : ∃ r, r = t % 8 := ⟨_, rfl⟩
          obtain ⟨bt, hbt, hb1, hb2⟩ := bit8 (t % 8) (by omega)
          rw [← hr] at e119 hb1 hb2
          have hr8 : r < 8 := by omega
          obtain ⟨e, he⟩ : ∃ e, e = t / 8 := ⟨_, rfl⟩
          rw [← he] at t8 t8i e109
          have xf := x8_fact (F k e) bt
          replace he := hideit he
          replace hr := hideit hr
          replace hbt := hideit hbt
          replace t8 := hideit t8
          clear hr8
          go_upto_region 24 with (fail)
          replace N0 := hideit N0.out.drew
          replace N1 := hideit N1.out.drew
          replace N3 := hideit (N3.out.ext (Ext.draw (Ext.refl w7)))
          replace N4 := hideit (N4.out.ext (Ext.draw (Ext.refl w7)))
          replace N2 := hideit (Ext.draw N2.out)
          refine wp_region_ladz (fun X => Ext w7.drew X) [19] [(false, 0), (false, 1), (false, 2), (false, 3), (false, 4), (false, 5), (false, 6), (false, 7), (false, 8), (false, 9), (false, 10), (false, 11), (false, 12), (false, 13), (false, 14), (false, 15), (false, 16), (false, 17), (false, 18), (true, 19)] (by kernel_rfl) (by kernel_rfl) (by decide +kernel) (by decide +kernel) (by decide +kernel) (by decide +kernel) (Ext.refl _) ?_
          refine wpZ_f _ (.slice (some ⟨g, 0, none⟩) i gc) rfl rfl (fun X _ => by simp [go_sem]) ?_
          simp only [List.getElem_toArray, List.getElem_cons_zero, Act.put, List.setIfInBounds_toArray, List.set_cons_zero, List.set_cons_succ]
          refine wpZ_f _ (.int .i64 (k : Int)) rfl rfl (fun X _ => by simp [go_sem]) ?_
          simp only [List.getElem_toArray, List.getElem_cons_zero, List.getElem_cons_succ, Act.put, List.setIfInBounds_toArray, List.set_cons_zero, List.set_cons_succ]
          refine wpZ_f _ (.pointer (some ⟨g, k, none⟩)) rfl rfl (fun X _ => by simp [go_sem, k1]) ?_
          simp only [List.getElem_toArray, List.getElem_cons_zero, List.getElem_cons_succ, Act.put, List.setIfInBounds_toArray, List.set_cons_zero, List.set_cons_succ]
          refine wpZ_f _ (.slice (some ⟨d, 0, none⟩) 512 dc) rfl rfl (fun X hX => (by have q := (N0.out.carry hX).1 k hki.out; simp only [if_pos] at q; simp [go_sem, q])) ?_
          simp only [List.getElem_toArray, List.getElem_cons_zero, List.getElem_cons_succ, Act.put, List.setIfInBounds_toArray, List.set_cons_zero, List.set_cons_succ]
          refine wpZ_f _ (.int .i64 (t : Int)) rfl rfl (fun X _ => by simp [go_sem]) ?_
          simp only [List.getElem_toArray, List.getElem_cons_zero, List.getElem_cons_succ, Act.put, List.setIfInBounds_toArray, List.set_cons_zero, List.set_cons_succ]
          refine wpZ_f _ (.int .i64 (e : Int)) rfl rfl (fun X _ => by simp [go_sem, e109]) ?_
          simp only [List.getElem_toArray, List.getElem_cons_zero, List.getElem_cons_succ, Act.put, List.setIfInBounds_toArray, List.set_cons_zero, List.set_cons_succ]
          refine wpZ_f _ (.slice (some ⟨g, 0, none⟩) i gc) rfl rfl (fun X _ => by simp [go_sem]) ?_
          simp only [List.getElem_toArray, List.getElem_cons_zero, List.getElem_cons_succ, Act.put, List.setIfInBounds_toArray, List.set_cons_zero, List.set_cons_succ]
          refine wpZ_f _ (.int .i64 (k : Int)) rfl rfl (fun X _ => by simp [go_sem]) ?_
          simp only [List.getElem_toArray, List.getElem_cons_zero, List.getElem_cons_succ, Act.put, List.setIfInBounds_toArray, List.set_cons_zero, List.set_cons_succ]
          refine wpZ_f _ (.pointer (some ⟨g, k, none⟩)) rfl rfl (fun X _ => by simp [go_sem, k1]) ?_
          simp only [List.getElem_toArray, List.getElem_cons_zero, List.getElem_cons_succ, Act.put, List.setIfInBounds_toArray, List.set_cons_zero, List.set_cons_succ]
          refine wpZ_f _ (.slice (some ⟨d, 0, none⟩) 512 dc) rfl rfl (fun X hX => (by have q := (N0.out.carry hX).1 k hki.out; simp only [if_pos] at q; simp [go_sem, q])) ?_
          simp only [List.getElem_toArray, List.getElem_cons_zero, List.getElem_cons_succ, Act.put, List.setIfInBounds_toArray, List.set_cons_zero, List.set_cons_succ]
          refine wpZ_f _ (.int .i64 (t : Int)) rfl rfl (fun X _ => by simp [go_sem]) ?_
          simp only [List.getElem_toArray, List.getElem_cons_zero, List.getElem_cons_succ, Act.put, List.setIfInBounds_toArray, List.set_cons_zero, List.set_cons_succ]
          refine wpZ_f _ (.int .i64 (e : Int)) rfl rfl (fun X _ => by simp [go_sem, e109]) ?_
          simp only [List.getElem_toArray, List.getElem_cons_zero, List.getElem_cons_succ, Act.put, List.setIfInBounds_toArray, List.set_cons_zero, List.set_cons_succ]
          refine wpZ_f _ (.pointer (some ⟨d, e, none⟩)) rfl rfl (fun X _ => by simp [go_sem, t8i]) ?_
          simp only [List.getElem_toArray, List.getElem_cons_zero, List.getElem_cons_succ, Act.put, List.setIfInBounds_toArray, List.set_cons_zero, List.set_cons_succ]
          refine wpZ_f _ (.int .u8 ((F k e).toNat : Int)) rfl rfl (fun X hX => (by have q := (N1.out.carry hX).1 e t8.out; simp only [yv] at q; simp [go_sem, q])) ?_
          simp only [List.getElem_toArray, List.getElem_cons_zero, List.getElem_cons_succ, Act.put, List.setIfInBounds_toArray, List.set_cons_zero, List.set_cons_succ]
          refine wpZ_f _ (.int .i64 (t : Int)) rfl rfl (fun X _ => by simp [go_sem]) ?_
          simp only [List.getElem_toArray, List.getElem_cons_zero, List.getElem_cons_succ, Act.put, List.setIfInBounds_toArray, List.set_cons_zero, List.set_cons_succ]
          refine wpZ_f _ (.int .i64 (r : Int)) rfl rfl (fun X _ => by simp [go_sem, e119]) ?_
          simp only [List.getElem_toArray, List.getElem_cons_zero, List.getElem_cons_succ, Act.put, List.setIfInBounds_toArray, List.set_cons_zero, List.set_cons_succ]
          refine wpZ_f _ (.int .u8 (bt.toNat : Int)) rfl rfl (fun X _ => by simp [go_sem, hb1]) ?_
          simp only [List.getElem_toArray, List.getElem_cons_zero, List.getElem_cons_succ, Act.put, List.setIfInBounds_toArray, List.set_cons_zero, List.set_cons_succ]
          refine wpZ_f _ (.int .u8 ((F k e ^^^ bt).toNat : Int)) rfl rfl (fun X _ => by simp [go_sem, xf]) ?_
          simp only [List.getElem_toArray, List.getElem_cons_zero, List.getElem_cons_succ, Act.put, List.setIfInBounds_toArray, List.set_cons_zero, List.set_cons_succ]
          refine wpZ_f _ (.pointer (some ⟨d, e, none⟩)) rfl rfl (fun X _ => by simp [go_sem, t8i]) ?_
          simp only [List.getElem_toArray, List.getElem_cons_zero, List.getElem_cons_succ, Act.put, List.setIfInBounds_toArray, List.set_cons_zero, List.set_cons_succ]
          have M0 : w7.drew.cell? ⟨d, e, none⟩ = some (yv (F k) e) := N1.out.1 e t8.out
          have M1 : w7.drew.frozen? ⟨d, e, none⟩ = false := N1.out.2.1 e t8.out
          have L0 := hideit (N0.out.other ⟨d, e, none⟩ (.int .u8 ((F k e ^^^ bt).toNat : Int)) (Ne.symm hgd.out))
          have L1 := hideit ((N1.out.set e (.int .u8 ((F k e ^^^ bt).toNat : Int))).congr (g' := yv fun j => if j = e then F k e ^^^ bt else F k j) fun j hj => by by_cases h : j = e <;> simp [yv, h])
          have L2 : Hid (Ext w (w7.drew.setCell ⟨d, e, none⟩ (.int .u8 ((F k e ^^^ bt).toNat : Int)))) := Below.setCell N2.out (p := ⟨d, e, none⟩) hwd.out _
          have L3 := hideit (N3.out.set ⟨d, e, none⟩ (.int .u8 ((F k e ^^^ bt).toNat : Int)) (.inr hd4'.out))
          have L4 : Hid (TabC (w7.drew.setCell ⟨d, e, none⟩ (.int .u8 ((F k e ^^^ bt).toNat : Int)))) := tabc_set N4.out _ _ (by show d ≠ 0; have := hwd.out; have := hw0.out; omega)
          refine wpZ_st _ (w7.drew.setCell ⟨d, e, none⟩ (.int .u8 ((F k e ^^^ bt).toNat : Int))) rfl rfl (by simp [go_sem, M0, M1]) (fun _ => True) (.inl (by simp)) trivial ?_
          simp only [List.getElem_toArray, List.getElem_cons_zero, List.getElem_cons_succ, Act.put]
          generalize w7.drew.setCell ⟨d, e, none⟩ (.int .u8 ((F k e ^^^ bt).toNat : Int)) = w8 at L0 L1 L2 L3 L4 ⊢
          clear M0 M1 N0 N1 N2 N3 N4
          refine wpZ_nil ?_
          obtain ⟨hPL, hBV⟩ := all_pl L3.out hgc2.out L0.out L1.out hdc2.out
          replace hPL := hideit hPL
          replace hBV := hideit hBV
          clear L0 L1 L3 t8i e109 e119 hb1 hb2 xf
          go_upto_region 25 with (fail)
          refine wp_region_lit ?_
          refine wpList_run rfl (.int .u64 (x.toNat : Int)) (by simp [go_sem]) ?_
          simp only [Act.put, List.setIfInBounds_toArray, List.set_cons_zero, List.set_cons_succ]
          refine wpList_run rfl (.slice (some ⟨g, 0, none⟩) i gc) (by simp [go_sem]) ?_
          simp only [Act.put, List.setIfInBounds_toArray, List.set_cons_zero, List.set_cons_succ]
          refine wpList_call rfl (by simp [go_sem]) ((parse_code x (.slice (some ⟨g, 0, none⟩) i gc) i (fun j => if j = k then .slice (some ⟨d, 0, none⟩) 512 dc else us j) (fun _ => 512) (fun j => if j = k then (fun j => if j = e then F k e ^^^ bt else F k j) else F j) w8 L4.out hPL.out (fun _ => hBV.out 0 (by have := m3.out; omega)) (fun _ _ => by decide) (by have := m3.out; omega)).mono ?_)
          rintro e y9 ⟨pv2, pc2, r2, rfl, hr2, hX9⟩
          refine ⟨_, rfl, ?_⟩
          simp only [Act.put, List.setIfInBounds_toArray, List.set_cons_zero, List.set_cons_succ]
          replace L4 := hideit (L4.out.ext hX9)
          replace L2 := hideit (Ext.trans L2.out hX9)
          clear hX9 hPL hBV
          refine wpList_run rfl (.tuple #[pv2, pc2, .int .i64 (r2)]) (by simp [go_sem]) ?_
          simp only [Act.put, List.setIfInBounds_toArray, List.set_cons_zero, List.set_cons_succ]
          refine wpList_run rfl (pv2) (by simp [go_sem]) ?_
          simp only [Act.put, List.setIfInBounds_toArray, List.set_cons_zero, List.set_cons_succ]
          refine wpList_run rfl (pc2) (by simp [go_sem]) ?_
          simp only [Act.put, List.setIfInBounds_toArray, List.set_cons_zero, List.set_cons_succ]
          refine wpList_run rfl (.int .i64 (r2)) (by simp [go_sem]) ?_
          simp only [Act.put, List.setIfInBounds_toArray, List.set_cons_zero, List.set_cons_succ]
          refine wpList_run rfl (pv2) (by simp [go_sem]) ?_
          simp only [Act.put, List.setIfInBounds_toArray, List.set_cons_zero, List.set_cons_succ]
          refine wpList_run rfl (pc2) (by simp [go_sem]) ?_
          simp only [Act.put, List.setIfInBounds_toArray, List.set_cons_zero, List.set_cons_succ]
          refine wpList_run rfl (.int .i64 (r2)) (by simp [go_sem]) ?_
          simp only [Act.put, List.setIfInBounds_toArray, List.set_cons_zero, List.set_cons_succ]
          rcases hr2 with ⟨h2, rfl⟩ | ⟨_, rfl⟩
          · have hlast : Hid ((k : Int) < (i : Int) - 1) := hideit (by
              by_cases hq : k = n + 1
              · exfalso
                refine tx_no hok.out (fun _ _ => rfl) (fun j hj => ?_) e t8.out ?_ h2
                · show (if j = k then _ else F j) = _
                  rw [if_neg (by omega), hF.out]
                · show (if n + 1 = k then _ else F (n + 1)) e ≠ _
                  rw [if_pos hq.symm, ← hF.out]
                  show (if e = e then _ else _) ≠ _
                  rw [if_pos rfl, ← hq]
                  exact xor_ne _ _ hbt.out
              · have := hki.out
                have := hm.out
                omega)
            have e139 : IntKind.i64.wrap ((i : Int) - 1) = (i : Int) - 1 := by have := m3.out; rw [IntKind.wrap_i64]; omega
            go_upto_region 26 with (fail)
            refine wp_region_lit ?_
            refine wpList_run rfl (.int .i64 0) (by simp [go_sem]) ?_
            simp only [Act.put, List.setIfInBounds_toArray, List.set_cons_zero, List.set_cons_succ]
            refine wpList_run rfl (.bool false) (by simp [go_sem]) ?_
            simp only [Act.put, List.setIfInBounds_toArray, List.set_cons_zero, List.set_cons_succ]
            refine wpList_run rfl (.bool false) (by simp [go_sem]) ?_
            simp only [Act.put, List.setIfInBounds_toArray, List.set_cons_zero, List.set_cons_succ]
            refine wpList_runW rfl (.int .i64 0) (by simp [go_sem]) ?_
            simp only [Act.put, List.setIfInBounds_toArray, List.set_cons_zero, List.set_cons_succ]
            refine wpList_runW rfl (.bool true) (by simp [go_sem]) ?_
            simp only [Act.put, List.setIfInBounds_toArray, List.set_cons_zero, List.set_cons_succ]
            refine wpList_runW rfl (.bool true) (by simp [go_sem]) ?_
            simp only [Act.put, List.setIfInBounds_toArray, List.set_cons_zero, List.set_cons_succ]
            refine wpList_runW rfl (.int .i64 (k : Int)) (by simp [go_sem]) ?_
            simp only [Act.put, List.setIfInBounds_toArray, List.set_cons_zero, List.set_cons_succ]
            refine wpList_runW rfl (.slice (some a) i vc) (by simp [go_sem]) ?_
            simp only [Act.put, List.setIfInBounds_toArray, List.set_cons_zero, List.set_cons_succ]
            refine wpList_runW rfl (.int .i64 (i : Int)) (by simp [go_sem]) ?_
            simp only [Act.put, List.setIfInBounds_toArray, List.set_cons_zero, List.set_cons_succ]
            refine wpList_runW rfl (.int .i64 ((i : Int) - 1)) (by simp [go_sem, e139]) ?_
            simp only [Act.put, List.setIfInBounds_toArray, List.set_cons_zero, List.set_cons_succ]
            refine wpList_runW rfl (.bool true) (by simp [go_sem, hlast.out]) ?_
            simp only [Act.put, List.setIfInBounds_toArray, List.set_cons_zero, List.set_cons_succ]
            refine wpList_runW rfl (.bool true) (by simp [go_sem]) ?_
            simp only [Act.put, List.setIfInBounds_toArray, List.set_cons_zero, List.set_cons_succ]
            refine wpList_run rfl (.bool true) (by simp [go_sem]) ?_
            simp only [Act.put, List.setIfInBounds_toArray, List.set_cons_zero, List.set_cons_succ]
            refine wpList_run rfl (.bool true) (by simp [go_sem]) ?_
            simp only [Act.put, List.setIfInBounds_toArray, List.set_cons_zero, List.set_cons_succ]
            go_wp2
            go_ret
            exact ⟨rfl, L2.out⟩
          · go_upto_region 26 with (fail)
            refine wp_region_lit ?_
            refine wpList_run rfl (.int .i64 110) (by simp [go_sem]) ?_
            simp only [Act.put, List.setIfInBounds_toArray, List.set_cons_zero, List.set_cons_succ]
            refine wpList_run rfl (.bool true) (by simp [go_sem]) ?_
            simp only [Act.put, List.setIfInBounds_toArray, List.set_cons_zero, List.set_cons_succ]
            refine wpList_run rfl (.bool true) (by simp [go_sem]) ?_
            simp only [Act.put, List.setIfInBounds_toArray, List.set_cons_zero, List.set_cons_succ]
            with_reducible refine xnot (by with_unfolding_all rfl) ?_
            simp only [Act.put, List.setIfInBounds_toArray, List.set_cons_zero, List.set_cons_succ]
            with_reducible refine xnot (by with_unfolding_all rfl) ?_
            simp only [Act.put, List.setIfInBounds_toArray, List.set_cons_zero, List.set_cons_succ]
            with_reducible refine xnot (by with_unfolding_all rfl) ?_
            simp only [Act.put, List.setIfInBounds_toArray, List.set_cons_zero, List.set_cons_succ]
            with_reducible refine xnot (by with_unfolding_all rfl) ?_
            simp only [Act.put, List.setIfInBounds_toArray, List.set_cons_zero, List.set_cons_succ]
            with_reducible refine xnot (by with_unfolding_all rfl) ?_
            simp only [Act.put, List.setIfInBounds_toArray, List.set_cons_zero, List.set_cons_succ]
            with_reducible refine xnot (by with_unfolding_all rfl) ?_
            simp only [Act.put, List.setIfInBounds_toArray, List.set_cons_zero, List.set_cons_succ]
            with_reducible refine xnot (by with_unfolding_all rfl) ?_
            simp only [Act.put, List.setIfInBounds_toArray, List.set_cons_zero, List.set_cons_succ]
            with_reducible refine xnot (by with_unfolding_all rfl) ?_
            simp only [Act.put, List.setIfInBounds_toArray, List.set_cons_zero, List.set_cons_succ]
            with_reducible refine xnot (by with_unfolding_all rfl) ?_
            simp only [Act.put, List.setIfInBounds_toArray, List.set_cons_zero, List.set_cons_succ]
            refine wpList_run rfl (.bool true) (by simp [go_sem]) ?_
            simp only [Act.put, List.setIfInBounds_toArray, List.set_cons_zero, List.set_cons_succ]
            refine wpList_run rfl (.bool true) (by simp [go_sem]) ?_
            simp only [Act.put, List.setIfInBounds_toArray, List.set_cons_zero, List.set_cons_succ]
            go_wp2
            go_ret
            exact ⟨rfl, L2.out⟩
end Go.Proofs.YtedgopionpdfeaaDoor
namespace Go.Proofs.YtedgopionpdfeaaDoor
open Go.ChangeShapes Go.WideShapes Go.ChangeAt Go.RowKit
theorem weightsAll_mem {H : Type} {P : Program} {e : TypeId} : ∀ {l : List (DataW H)} {d : DataW H}, d ∈ l → ∀ n ∈ d.weights P e, n ∈ DataW.weightsAll P e l
  | d0 :: r, d, h, n, hn => by
    simp only [DataW.weightsAll, List.mem_append]
    rcases List.mem_cons.1 h with rfl | h
    · exact .inl hn
    · exact .inr (weightsAll_mem h n hn)
theorem trod_stW {H : Type} {enc : TypeId × Value → H} {P : Program} {w : World} {base : Nat} {spare : Nat → Bool} {held : Bool} {t : TypeId} {fs : List Field} {fuel : Nat} {cs : List Value} {x : DataW H × List MemPlace} (ht : P.underlying t = some (.struct fs.toArray)) (h : DataW.trod enc P w base spare held fuel t cs = some x) :
    ∃ n, cs.length = P.cellsOf t ∧ ∀ (i : Nat) (f : Field), fs[i]? = some f → ∃ y, DataW.trod enc P w base spare held n f.type ((cs.drop f.offset).take (P.cellsOf f.type)) = some y ∧ ∀ m ∈ y.1.weights P f.type, m ∈ x.1.weights P t := by
  obtain ⟨xs, n, _, hx, hl, hlen, hf⟩ := DataW.trod_struct ht h
  refine ⟨n, hl, fun i f hi => ?_⟩
  have hi2 : fs.toArray[i]? = some f := by simpa using hi
  have hlt : i < xs.length := by
    have := (List.getElem?_eq_some_iff.1 hi).1
    simp at hlen
    omega
  refine ⟨xs[i], by rw [hf i f hi2, List.getElem?_eq_getElem hlt], fun m hm => ?_⟩
  rw [hx]
  simp only [DataW.weights, ht]
  exact DataW.weights_mem_each (j := i) (by simp [hi]) (by simp [hlt]) m hm
set_option maxRecDepth 100000 in
theorem open_pieceW {H : Type} {enc : TypeId × Value → H} {W : World} {base : Nat} {spare : Nat → Bool} {held : Bool} {n : Nat} {cs : List Value} {x : DataW H × List MemPlace} (h : DataW.trod enc Tryd.prog W base spare held n 34 cs = some x) (hw : ∀ m ∈ x.1.weights Tryd.prog 34, m ≤ reachBytes) :
    ∃ u l b, cs = [u] ∧ PV u l b W ∧ l ≤ reachBytes := by
  rcases open_ints Tryd.underlying34 Tryd.underlying5 (by kernel_rfl) h with ⟨hcs, hx⟩ | ⟨a, len, cap, zs, hcs, _, hl, hm, hz, hd, hcell, hwz⟩
  · exact ⟨.slice none 0 0, 0, fun _ => 0#8, hcs, .inl ⟨rfl, rfl⟩, Nat.zero_le _⟩
  · have hlen : len ≤ zs.length := by rw [hz]; split <;> omega
    have hall : ∀ i, i < len → ∃ c : BitVec 8, zs.getD i 0 = (c.toNat : Int) := fun i hi => by
      refine of_wf8 (hwz _ ?_)
      rw [List.getD_eq_getElem?_getD, List.getElem?_eq_getElem (by omega), Option.getD_some]
      exact List.getElem_mem _
    refine ⟨.slice (some a) len cap, len, fun i => if h : i < len then (hall i h).choose else 0#8, hcs, .inr ⟨a, cap, rfl, hl, fun j hj => ?_⟩, ?_⟩
    · rw [hcell j (by omega)]
      simp only [yv, dif_pos hj]
      rw [← (hall j hj).choose_spec]
    · have b5 : Tryd.prog.bytesOf 5 = 1 := by kernel_rfl
      have h1 := hw (((lits .u8 (zs.take len)).length (α := DataW H) + (lits .u8 (zs.drop len)).length (α := DataW H)) * Tryd.prog.bytesOf 5) (by rw [hd]; simp [DataW.weights, Tryd.underlying34])
      rw [b5] at h1
      simp [lits] at h1
      omega
set_option maxRecDepth 100000 in
theorem redo_cellsW {H : Type} {enc : TypeId × Value → H} {W : World} {base : Nat} {spare : Nat → Bool} {held : Bool} {n : Nat} {cs : List Value} {x : DataW H × List MemPlace} (h : DataW.trod enc Tryd.prog W base spare held n 51 cs = some x) (hw : ∀ m ∈ x.1.weights Tryd.prog 51, m ≤ reachBytes) :
    ∃ (k : Int) (u : Value), cs = [.int .i64 k, u] ∧ okI k ∧ (∃ l b, PV u l b W ∧ l ≤ reachBytes) := by
  have c3 : Tryd.prog.cellsOf 3 = 1 := by kernel_rfl
  have c34 : Tryd.prog.cellsOf 34 = 1 := by kernel_rfl
  have c51 : Tryd.prog.cellsOf 51 = 2 := by kernel_rfl
  obtain ⟨mm, hl, hf⟩ := trod_stW (fs := [_, _]) Tryd.underlying51 h
  obtain ⟨y0, h0, _⟩ := hf 0 _ rfl
  obtain ⟨y1, h1, w1⟩ := hf 1 _ rfl
  rw [c51] at hl
  match cs, hl with
  | [v0, v1], _ =>
    simp only [c3, c34, List.drop_succ_cons, List.drop_zero, List.take_succ_cons, List.take_zero] at h0 h1
    obtain ⟨k, e0, _, w0⟩ := DataW.trod_int Tryd.underlying3 h0
    obtain ⟨u, l, b, e1, hp, hl⟩ := open_pieceW h1 fun n hn => hw n (w1 n hn)
    simp only [List.cons.injEq, and_true] at e0 e1
    subst e0 e1
    exact ⟨k, _, rfl, w0, l, b, hp, hl⟩
/-- redos that came in -/
def RArg (v : Value) (W : World) : Prop := ∃ n bs us ls fs, RLs v n bs us ls fs W ∧ (∀ i, i < n → okI (bs i)) ∧ n ≤ 4398046511104
set_option maxRecDepth 100000 in
theorem rarg {H : Type} {enc : TypeId × Value → H} {W : World} {r : Reach} {b0 base : Nat} {spare : Nat → Bool} {held : Bool} {v : Value} {d : DataW H} {p : List MemPlace} {ts : List TypeId} {ds : List (DataW H)}
    (hv : Value.okWide Tryd.prog W r b0 23 v) (h : DataW.Trod enc Tryd.prog W base spare held 23 v d p) (hsz : (DataW.weightsEach Tryd.prog ts ds).all (· ≤ reachBytes) = true) (jj : Nat) (ht : ts[jj]? = some 23) (hd : ds[jj]? = some d) : RArg v W := by
  obtain ⟨a, len, cap, rfl⟩ := okWide_slice Tryd.underlying23 hv
  obtain ⟨fuel, hf⟩ := h
  have hC : Tryd.prog.cellsOf 51 = 2 := by kernel_rfl
  have hB : Tryd.prog.bytesOf 51 = 32 := by kernel_rfl
  rcases Go.Deep.open_slice Tryd.underlying23 hf with ⟨hcs, _⟩ | ⟨x, l, c, m, n, D, Pl, hcs, _, hl, hm, hmm, hdx, hx⟩
  · simp [Value.cells] at hcs
    obtain ⟨rfl, rfl, rfl⟩ := hcs
    exact ⟨0, fun _ => 0, fun _ => undef, fun _ => 0, fun _ _ => 0#8, ⟨.inl ⟨rfl, rfl⟩, fun i hi => by omega⟩, fun i hi => by omega, by decide⟩
  · simp [Value.cells] at hcs
    obtain ⟨rfl, rfl, rfl⟩ := hcs
    have hdx' : d = .slice ((List.range len).map D) ((List.range (m - len)).map fun j => D (len + j)) := congrArg Prod.fst hdx
    have hall : ∀ n ∈ d.weights Tryd.prog 23, n ≤ reachBytes := fun n hn => by
      have := List.all_eq_true.1 hsz _ (DataW.weights_mem_each ht hd n hn)
      simpa using this
    have hnn : len ≤ 4398046511104 := by
      rw [hdx'] at hd
      have h1 := sized_slice hsz ht hd Tryd.underlying23
      rw [hB] at h1
      unfold reachBytes at h1
      simp at h1
      omega
    have hlm : len ≤ m := by rw [hmm]; split <;> omega
    have each : ∀ i, i < len → ∃ y : Int × Value × Nat × (Nat → BitVec 8), (∀ j, j < 2 → W.cell? (x.add (i * 2 + j)) = some (rdC (fun _ => y.1) (fun _ => y.2.1) j)) ∧ okI y.1 ∧ PV y.2.1 y.2.2.1 y.2.2.2 W ∧ y.2.2.1 ≤ 140737488355328 := by
      intro i hi
      obtain ⟨cs', h1, h2⟩ := hx i (by omega)
      rw [hC] at h1
      obtain ⟨_, hlen, hcell⟩ := World.cells?_some h1
      obtain ⟨k, u, rfl, hk, l', b', hp, hl'⟩ := redo_cellsW h2 (fun n hn => hall n (by rw [hdx']; simp only [DataW.weights, Tryd.underlying23, List.mem_cons, List.mem_append]; exact .inr (.inl (weightsAll_mem (List.mem_map.2 ⟨i, by simpa using hi, rfl⟩) n hn))))
      refine ⟨(k, u, l', b'), fun j hj => ?_, hk, hp, by unfold reachBytes at hl'; show l' ≤ _; omega⟩
      have e := hcell j (by omega)
      rw [add_add] at e
      rw [e]
      rcases (by omega : j = 0 ∨ j = 1) with rfl | rfl <;> rfl
    obtain ⟨y, hy⟩ := Go.Deep.choose_lt each
    refine ⟨len, fun i => (y i).1, fun i => (y i).2.1, fun i => (y i).2.2.1, fun i => (y i).2.2.2, ⟨.inr ⟨x, cap, rfl, hl, fun j hj => ?_⟩, fun i hi => (hy i hi).2.2⟩, fun i hi => (hy i hi).2.1, hnn⟩
    have e := (hy (j / 2) (by omega)).1 (j % 2) (Nat.mod_lt _ (by decide))
    rw [show j / 2 * 2 + j % 2 = j by omega] at e
    rw [e]
    unfold rdC
    rw [show j % 2 % 2 = j % 2 by omega]
/-- blocks that came in -/
def PArg2 (v : Value) (W : World) : Prop := ∃ n us ls fs, PL v n us ls fs W ∧ (∀ i, i < n → ls i ≤ 140737488351232) ∧ n ≤ 5864062014000 + 1000
set_option maxRecDepth 100000 in
theorem blarg {H : Type} {enc : TypeId × Value → H} {W : World} {r : Reach} {b0 base : Nat} {spare : Nat → Bool} {held : Bool} {v : Value} {d : DataW H} {p : List MemPlace} {ts : List TypeId} {ds : List (DataW H)}
    (hv : Value.okWide Tryd.prog W r b0 24 v) (h : DataW.Trod enc Tryd.prog W base spare held 24 v d p) (hsz : (DataW.weightsEach Tryd.prog ts ds).all (· ≤ reachBytes) = true) (jj : Nat) (ht : ts[jj]? = some 24) (hd : ds[jj]? = some d) : PArg2 v W := by
  obtain ⟨a, len, cap, rfl⟩ := okWide_slice Tryd.underlying24 hv
  obtain ⟨fuel, hf⟩ := h
  have hC : Tryd.prog.cellsOf 34 = 1 := by kernel_rfl
  have hB : Tryd.prog.bytesOf 34 = 24 := by kernel_rfl
  rcases Go.Deep.open_slice Tryd.underlying24 hf with ⟨hcs, _⟩ | ⟨x, l, c, m, n, D, Pl, hcs, _, hl, hm, hmm, hdx, hx⟩
  · simp [Value.cells] at hcs
    obtain ⟨rfl, rfl, rfl⟩ := hcs
    exact ⟨0, fun _ => undef, fun _ => 0, fun _ _ => 0#8, ⟨.inl ⟨rfl, rfl⟩, fun i hi => by omega⟩, fun i hi => by omega, by decide⟩
  · simp [Value.cells] at hcs
    obtain ⟨rfl, rfl, rfl⟩ := hcs
    have hdx' : d = .slice ((List.range len).map D) ((List.range (m - len)).map fun j => D (len + j)) := congrArg Prod.fst hdx
    have hall : ∀ n ∈ d.weights Tryd.prog 24, n ≤ reachBytes := fun n hn => by
      have := List.all_eq_true.1 hsz _ (DataW.weights_mem_each ht hd n hn)
      simpa using this
    have hnn : len ≤ 5864062014000 + 1000 := by
      rw [hdx'] at hd
      have h1 := sized_slice hsz ht hd Tryd.underlying24
      rw [hB] at h1
      unfold reachBytes at h1
      simp at h1
      omega
    have hlm : len ≤ m := by rw [hmm]; split <;> omega
    have each : ∀ i, i < len → ∃ y : Value × Nat × (Nat → BitVec 8), W.cell? (x.add i) = some y.1 ∧ PV y.1 y.2.1 y.2.2 W ∧ y.2.1 ≤ 140737488351232 := by
      intro i hi
      obtain ⟨cs', h1, h2⟩ := hx i (by omega)
      rw [hC] at h1
      obtain ⟨_, hlen, hcell⟩ := World.cells?_some h1
      obtain ⟨u, l', b', rfl, hp, hl'⟩ := open_pieceW h2 (fun n hn => hall n (by rw [hdx']; simp only [DataW.weights, Tryd.underlying24, List.mem_cons, List.mem_append]; exact .inr (.inl (weightsAll_mem (List.mem_map.2 ⟨i, by simpa using hi, rfl⟩) n hn))))
      refine ⟨(u, l', b'), ?_, hp, by unfold reachBytes at hl'; show l' ≤ _; omega⟩
      have e := hcell 0 (by omega)
      rw [add_add, Nat.mul_one, Nat.add_zero] at e
      rw [e]
      rfl
    obtain ⟨y, hy⟩ := Go.Deep.choose_lt each
    exact ⟨len, fun i => (y i).1, fun i => (y i).2.1, fun i => (y i).2.2, ⟨.inr ⟨x, cap, rfl, hl, fun j hj => (hy j hj).1⟩, fun i hi => (hy i hi).2.1⟩, fun i hi => (hy i hi).2.2, hnn⟩
end Go.Proofs.YtedgopionpdfeaaDoor
