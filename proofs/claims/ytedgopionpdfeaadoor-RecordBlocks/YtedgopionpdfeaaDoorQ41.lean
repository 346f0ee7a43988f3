/-
  The document's turn. Parse by its code; lists of blocks that are changed.
-/
import Derived.Test.YtedgopionpdfeaaDoorQ40
import Derived.Test.YtedgopionpdfeaaDoorQ38
namespace Go.Proofs.YtedgopionpdfeaaDoor
open Go.RowKit Go.BigFrame
set_option linter.unusedVariables false
/-- the first byte's highest bit turned -/
def tuF (f : Nat → BitVec 8) (j : Nat) : BitVec 8 := if j = 0 then f 0 ^^^ 128#8 else f j
theorem x8_128 (a : BitVec 8) : bits .xor .u8 (a.toNat : Int) 128 = ((a ^^^ 128#8).toNat : Int) := by
  have := u8_xor_nat a.toNat 128 a.isLt (by decide)
  rw [show ((128 : Nat) : Int) = 128 from rfl] at this
  rw [this, BitVec.toNat_xor]
  rfl
theorem tu_set (f : Nat → BitVec 8) (j : Nat) : (if j = 0 then Value.int .u8 ((f 0 ^^^ 128#8).toNat : Int) else yv f j) = yv (tuF f) j := by
  unfold tuF
  by_cases h : j = 0
  · subst h; rfl
  · simp [yv, h]
set_option maxRecDepth 20000 in
set_option maxHeartbeats 4000000 in
theorem rturn_any (u : Value) (f : Nat → BitVec 8) (w : World) (hu : BV u 512 f w) : Calls Tryd.prog 30 #[u] w fun e w' => ∃ d dc, e = .returned (.slice (some ⟨d, 0, none⟩) 512 dc) ∧ 512 ≤ dc ∧ w.heap.size ≤ d ∧ RowAt d 512 (yv (tuF f)) w' ∧ Ext w w' := by
  obtain ⟨uo, uc, rfl⟩ := hu.form
  have hw := hideit hu
  replace hu := hideit hu
  have hE := hideit (Ext.refl w)
  go_enter Tryd.func30, Tryd.ntmps30
  go_upto_region 1 with (fail)
  refine wp_region_lit ?_
  have XN : Ext w (w.alloc (.cells #[] 5)) := (Below.refl _ _).alloc (Nat.le_refl _) _
  have G0 := hideit (GB.empty w (Ext.refl w) f)
  replace hu := hideit (hu.out.ext XN)
  refine wpList_to rfl (.slice (some ⟨w.heap.size, 0, none⟩) 0 0) (w.alloc (.cells #[] 5)) (by simp [go_sem]) ?_
  simp only [Act.put, List.setIfInBounds_toArray, List.set_cons_zero, List.set_cons_succ]
  clear XN
  generalize w.alloc (.cells #[] 5) = w1 at G0 hu ⊢
  obtain ⟨g, hg⟩ : ∃ g, g = w.heap.size := ⟨_, rfl⟩
  rw [← hg] at G0 ⊢
  clear hg
  refine wpList_run rfl (.slice uo 512 uc) (by simp [go_sem]) ?_
  simp only [Act.put, List.setIfInBounds_toArray, List.set_cons_zero, List.set_cons_succ]
  refine wpList_gb rfl (.tmp 4) (.tmp 5) rfl rfl G0.out (.slice uo 512 uc) 512 f rfl hu.out (by decide) ?_
  intro v2 w2 hG
  replace hG : GB w v2 512 f w2 := hG.congr (by decide) fun j hj => by unfold catF; rw [if_neg (by omega), Nat.sub_zero]
  obtain ⟨d, dc, rfl, hd, hdc, _, hR⟩ := hG.1.lies (by decide)
  simp only [Act.put, List.setIfInBounds_toArray, List.set_cons_zero, List.set_cons_succ]
  have hX := hideit hG.2
  replace hR := hideit hR
  replace hd := hideit hd
  replace hdc := hideit hdc
  have xf := x8_128 (f 0)
  clear G0 hu hG hE hw
  refine wpList_run rfl (.slice (some ⟨d, 0, none⟩) 512 dc) (by simp [go_sem]) ?_
  simp only [Act.put, List.setIfInBounds_toArray, List.set_cons_zero, List.set_cons_succ]
  go_upto_region 2 with (fail)
  refine wp_region_lit ?_
  refine wpList_run rfl (.slice (some ⟨d, 0, none⟩) 512 dc) (by simp [go_sem]) ?_
  simp only [Act.put, List.setIfInBounds_toArray, List.set_cons_zero, List.set_cons_succ]
  refine wpList_run rfl (.slice (some ⟨d, 0, none⟩) 512 dc) (by simp [go_sem]) ?_
  simp only [Act.put, List.setIfInBounds_toArray, List.set_cons_zero, List.set_cons_succ]
  refine wpList_run rfl (.pointer (some ⟨d, 0, none⟩)) (by simp [go_sem]) ?_
  simp only [Act.put, List.setIfInBounds_toArray, List.set_cons_zero, List.set_cons_succ]
  have m1 : w2.cell? ⟨d, 0, none⟩ = some (.int .u8 ((f 0).toNat : Int)) := hR.out.1 0 (by decide)
  refine wpList_run rfl (.int .u8 ((f 0).toNat : Int)) (by simp [go_sem, m1]) ?_
  simp only [Act.put, List.setIfInBounds_toArray, List.set_cons_zero, List.set_cons_succ]
  clear m1
  refine wpList_run rfl (.int .u8 ((f 0 ^^^ 128#8).toNat : Int)) (by simp [go_sem, xf]) ?_
  simp only [Act.put, List.setIfInBounds_toArray, List.set_cons_zero, List.set_cons_succ]
  refine wpList_run rfl (.pointer (some ⟨d, 0, none⟩)) (by simp [go_sem]) ?_
  simp only [Act.put, List.setIfInBounds_toArray, List.set_cons_zero, List.set_cons_succ]
  have M0 : w2.cell? ⟨d, 0, none⟩ = some (.int .u8 ((f 0).toNat : Int)) := hR.out.1 0 (by decide)
  have M1 : w2.frozen? ⟨d, 0, none⟩ = false := hR.out.2.1 0 (by decide)
  have N0 := hideit (hR.out.set 0 (.int .u8 ((f 0 ^^^ 128#8).toNat : Int)))
  have NE := hideit (hX.out.setCell (p := ⟨d, 0, none⟩) (hd.out) (.int .u8 ((f 0 ^^^ 128#8).toNat : Int)))
  refine xst rfl (w2.setCell ⟨d, 0, none⟩ (.int .u8 ((f 0 ^^^ 128#8).toNat : Int))) (by simp [go_sem, M0, M1]) ?_
  simp only [Act.put]
  generalize w2.setCell ⟨d, 0, none⟩ (.int .u8 ((f 0 ^^^ 128#8).toNat : Int)) = x2 at N0 NE ⊢
  clear M0 M1
  replace N0 := hideit (N0.out.congr (g' := yv (tuF f)) (fun j hj => tu_set f j))
  replace hR := N0
  replace hX := NE
  clear N0 NE 
  go_upto_region 3 with (fail)
  refine wp_region_lit ?_
  refine wpList_run rfl (.slice (some ⟨d, 0, none⟩) 512 dc) (by simp [go_sem]) ?_
  simp only [Act.put, List.setIfInBounds_toArray, List.set_cons_zero, List.set_cons_succ]
  refine wpList_run rfl (.slice (some ⟨d, 0, none⟩) 512 dc) (by simp [go_sem]) ?_
  simp only [Act.put, List.setIfInBounds_toArray, List.set_cons_zero, List.set_cons_succ]
  go_wp2
  go_ret
  exact ⟨d, dc, rfl, hdc.out, hd.out, hR.out, hX.out⟩
end Go.Proofs.YtedgopionpdfeaaDoor
namespace Go.Proofs.YtedgopionpdfeaaDoor
open Go.RowKit Go.BigFrame
set_option linter.unusedVariables false
theorem parse_yes (x : BitVec 64) (vb : Value) (m : Nat) (us : Nat → Value) (ls : Nat → Nat) (fs : Nat → Nat → BitVec 8) (w : World) (hT : TabC w) (hP : PL vb m us ls fs w) (h0 : 0 < m → BV (us 0) (ls 0) (fs 0) w) (hls : ∀ i, i < m → ls i ≤ 140737488355328) (hm : m ≤ 4398046511104) (hh : hasP x m ls fs) (ht : isTx x ls fs) : Calls Tryd.prog 12 #[.int .u64 (x.toNat : Int), vb] w fun e w' => ∃ v us', e = .returned (.tuple #[v, .int .i64 ((cP (fs 0) + 2 : Nat) : Int), .int .i64 0]) ∧ RDs w.heap.size v (cP (fs 0)) (bP (fs 0)) us' (fun i => ls (i + 1)) (unL ls fs) w' ∧ Ext w w' := by
  refine (parse_some x vb m us ls fs w hT hP h0 hls hm hh).mono fun e w' ⟨hX, h⟩ => ?_
  rcases h with ⟨_, v, us', he, hD⟩ | ⟨h, _⟩
  · exact ⟨v, us', he, hD, hX⟩
  · exact absurd ht h
theorem parse_not (x : BitVec 64) (vb : Value) (m : Nat) (us : Nat → Value) (ls : Nat → Nat) (fs : Nat → Nat → BitVec 8) (w : World) (hT : TabC w) (hP : PL vb m us ls fs w) (h0 : 0 < m → BV (us 0) (ls 0) (fs 0) w) (hls : ∀ i, i < m → ls i ≤ 140737488355328) (hm : m ≤ 4398046511104) (hh : ¬ (hasP x m ls fs ∧ isTx x ls fs)) : Calls Tryd.prog 12 #[.int .u64 (x.toNat : Int), vb] w fun e w' => e = .returned (.tuple #[.slice none 0 0, .int .i64 0, .int .i64 110]) ∧ Ext w w' := by
  by_cases h1 : hasP x m ls fs
  · refine (parse_some x vb m us ls fs w hT hP h0 hls hm h1).mono fun e w' ⟨hX, h⟩ => ?_
    rcases h with ⟨h, _⟩ | ⟨_, he⟩
    · exact absurd ⟨h1, h⟩ hh
    · exact ⟨he, hX⟩
  · exact parse_none x vb m us ls fs w hP h0 hls hm h1
/-- Parse tells OK or ErrFormat -/
theorem parse_code (x : BitVec 64) (vb : Value) (m : Nat) (us : Nat → Value) (ls : Nat → Nat) (fs : Nat → Nat → BitVec 8) (w : World) (hT : TabC w) (hP : PL vb m us ls fs w) (h0 : 0 < m → BV (us 0) (ls 0) (fs 0) w) (hls : ∀ i, i < m → ls i ≤ 140737488355328) (hm : m ≤ 4398046511104) : Calls Tryd.prog 12 #[.int .u64 (x.toNat : Int), vb] w fun e w' => ∃ v c r, e = .returned (.tuple #[v, c, .int .i64 r]) ∧ (((hasP x m ls fs ∧ isTx x ls fs) ∧ r = 0) ∨ (¬ (hasP x m ls fs ∧ isTx x ls fs) ∧ r = 110)) ∧ Ext w w' := by
  by_cases h : hasP x m ls fs ∧ isTx x ls fs
  · exact (parse_yes x vb m us ls fs w hT hP h0 hls hm h.1 h.2).mono fun e w' ⟨v, us', he, _, hX⟩ => ⟨_, _, _, he, .inl ⟨h, rfl⟩, hX⟩
  · exact (parse_not x vb m us ls fs w hT hP h0 hls hm h).mono fun e w' ⟨he, hX⟩ => ⟨_, _, _, he, .inr ⟨h, rfl⟩, hX⟩
/-- another seal: no transaction -/
theorem tx_no {x : BitVec 64} {n m : Nat} {bs : Nat → Int} {ls ls' : Nat → Nat} {fs fs' : Nat → Nat → BitVec 8} (hok : okT x n bs ls fs) (hl : ∀ i, i < n + 2 → ls' i = 512) (hf : ∀ i, i < n + 1 → fs' i = trF x (tmK ls fs n) n bs fs i) (j : Nat) (hj : j < 512) (hd : fs' (n + 1) j ≠ trF x (tmK ls fs n) n bs fs (n + 1) j) : ¬ (hasP x m ls' fs' ∧ isTx x ls' fs') := by
  rintro ⟨_, _, _, hs⟩
  have hmay := hok.1
  have hn := hmay.2.2.1
  have hlen : ∀ i, i < n → ls i = 512 := fun i hi => Classical.byContradiction fun h => hok.2 ⟨i, hi, h⟩
  have h0 : fs' 0 = planF x (tmK ls fs n) n bs := by
    rw [hf 0 (by omega)]
    unfold trF bkF
    rw [if_neg (by omega), if_pos rfl]
  have hc : cP (fs' 0) = n := by rw [h0, cP_plan _ _ _ _ hn]
  have hb : ∀ i, i < n → bP (fs' 0) i = bs i := fun i hi => by rw [h0, bP_plan _ _ _ _ i hi (hmay.2.2.2.2 i hi).1]
  have hu : ∀ i, i < n → unL ls' fs' i = fs i := fun i hi => by
    unfold unL
    have e1 : fs' (i + 1) = stF 512 (fs i) := by
      rw [hf (i + 1) (by omega)]
      unfold trF bkF
      rw [if_neg (by omega), if_neg (by omega), Nat.add_sub_cancel]
    rw [h0, tP_plan, hl (i + 1) (by omega), e1]
    exact unF_stF _ _ _ (by rw [tnB_tmK ls fs n hn i hi, hlen i hi])
  have htm : tmK (fun i => ls' (i + 1)) (unL ls' fs') n = tmK ls fs n := tmK_congr n fun i hi => by
    rw [hu i hi, hlen i hi]
    show like (ls' (i + 1)) _ = _
    rw [hl (i + 1) (by omega)]
  rw [hc, htm] at hs
  have := (of_decide_eq_true (hs (n + 1) (by omega))).2 j hj
  rw [trF_congr (fun i hi => hb i hi) (fun i hi => hu i hi) (n + 1) (by omega)] at this
  exact hd this.symm
theorem has_num {x y : BitVec 64} {n m : Nat} {bs : Nat → Int} {ls ls' : Nat → Nat} {fs fs' : Nat → Nat → BitVec 8} (h0 : fs' 0 = trF x (tmK ls fs n) n bs fs 0) (hh : hasP y m ls' fs') : y = x := by
  have e : fs' 0 = planF x (tmK ls fs n) n bs := by
    rw [h0]
    unfold trF bkF
    rw [if_neg (by omega), if_pos rfl]
  have := hh.2.2.1
  rw [e, nP_plan] at this
  exact this.symm
theorem x8_fact (a c : BitVec 8) : bits .xor .u8 (a.toNat : Int) (c.toNat : Int) = ((a ^^^ c).toNat : Int) := by
  rw [u8_xor_nat _ _ a.isLt c.isLt, BitVec.toNat_xor]
theorem lies_pl {B : Nat} {a : Addr} {m c : Nat} {us : Nat → Value} {fs : Nat → Nat → BitVec 8} {X : World} (h : BLs B (.slice (some a) m c) m us fs X) : LieAt a m us X := by
  rcases h.parts.1 with ⟨h1, _⟩ | ⟨a', c', h1, _, h3⟩
  · cases h1
  · injection h1 with h1
    injection h1 with h1
    subst h1
    exact h3
/-- a block's bytes, wherever they lie -/
def RowB (z : Nat) (f : Nat → BitVec 8) (X : World) : Prop := LieAt ⟨z, 0, none⟩ 512 (yv f) X
theorem RowB.other {z : Nat} {f : Nat → BitVec 8} {X : World} (h : RowB z f X) (p : Addr) (v : Value) (hp : p.block ≠ z) : RowB z f (X.setCell p v) := by
  refine ⟨fun j hj => ?_, by rw [World.size_setCell]; exact h.2⟩
  rw [World.cell?_setCell_other _ _ _ _ (fun e => hp (by rw [e, add_block]))]
  exact h.1 j hj
theorem RowB.bv {z cp : Nat} {f : Nat → BitVec 8} {X : World} (h : RowB z f X) (hc : 512 ≤ cp) : BV (.slice (some ⟨z, 0, none⟩) 512 cp) 512 f X := .inr ⟨_, cp, rfl, hc, h⟩
theorem rowb_of {B : Nat} {v : Value} {m j z cp : Nat} {us : Nat → Value} {fs : Nat → Nat → BitVec 8} {X : World} (h : BLs B v m us fs X) (hj : j < m) (he : us j = .slice (some ⟨z, 0, none⟩) 512 cp) : RowB z (fs j) X := by
  obtain ⟨z', cp', h1, _, h3, _⟩ := h.byt j hj
  rw [h1] at he
  injection he with he
  injection he with he
  injection he with he
  subst he
  exact h3
theorem tabc_set {X : World} (h : TabC X) (p : Addr) (v : Value) (hp : p.block ≠ 0) : TabC (X.setCell p v) := by
  refine ⟨fun j hj => ?_, by rw [World.size_setCell]; exact h.2⟩
  rw [World.cell?_setCell_other _ _ _ _ (fun e => hp (by rw [e]))]
  exact h.1 j hj
theorem add0 (g k : Nat) : (⟨g, 0, none⟩ : Addr).add k = ⟨g, k, none⟩ := by
  unfold Addr.add
  split
  · rename_i h0
    rw [h0]
  · simp
/-- a list's blocks, in memory below B, none of them g -/
def AllB (B g i : Nat) (us : Nat → Value) (F : Nat → Nat → BitVec 8) (X : World) : Prop := ∀ j, j < i → ∃ z cp, us j = .slice (some ⟨z, 0, none⟩) 512 cp ∧ 512 ≤ cp ∧ RowB z (F j) X ∧ z < B ∧ z ≠ g
theorem AllB.ext {B g i : Nat} {us : Nat → Value} {F : Nat → Nat → BitVec 8} {X Y : World} (h : AllB B g i us F X) (k : Ext X Y) : AllB B g i us F Y := fun j hj => by
  obtain ⟨z, cp, h1, h2, h3, h4⟩ := h j hj
  exact ⟨z, cp, h1, h2, h3.carry k, h4⟩
theorem AllB.set {B g i : Nat} {us : Nat → Value} {F : Nat → Nat → BitVec 8} {X : World} (h : AllB B g i us F X) (p : Addr) (v : Value) (hp : p.block = g ∨ B ≤ p.block) : AllB B g i us F (X.setCell p v) := fun j hj => by
  obtain ⟨z, cp, h1, h2, h3, h4, h5⟩ := h j hj
  exact ⟨z, cp, h1, h2, h3.other p v (by omega), h4, h5⟩
theorem all_pl {B g i k d dc gc : Nat} {us : Nat → Value} {F : Nat → Nat → BitVec 8} {f : Nat → BitVec 8} {X : World} (h : AllB B g i us F X) (hc : i ≤ gc) (hR : RowAt g i (fun j => if j = k then .slice (some ⟨d, 0, none⟩) 512 dc else us j) X) (hD : RowAt d 512 (yv f) X) (hdc : 512 ≤ dc) :
    PL (.slice (some ⟨g, 0, none⟩) i gc) i (fun j => if j = k then .slice (some ⟨d, 0, none⟩) 512 dc else us j) (fun _ => 512) (fun j => if j = k then f else F j) X ∧ ∀ j, j < i → BV (if j = k then .slice (some ⟨d, 0, none⟩) 512 dc else us j) 512 (if j = k then f else F j) X := by
  have key : ∀ j, j < i → BV (if j = k then .slice (some ⟨d, 0, none⟩) 512 dc else us j) 512 (if j = k then f else F j) X := fun j hj => by
    by_cases e : j = k
    · rw [if_pos e, if_pos e]
      exact .inr ⟨_, dc, rfl, hdc, RowAt.lie hD 512 (Nat.le_refl _)⟩
    · rw [if_neg e, if_neg e]
      obtain ⟨z, cp, h1, h2, h3, _⟩ := h j hj
      rw [h1]
      exact h3.bv h2
  exact ⟨⟨.inr ⟨_, gc, rfl, hc, fun j hj => by rw [add0]; exact hR.1 j hj⟩, fun j hj => (key j hj).pv⟩, key⟩
theorem xor_ne (a c : BitVec 8) (h : c ≠ 0#8) : a ^^^ c ≠ a := fun e => h (by
  have : a ^^^ (a ^^^ c) = a ^^^ a := by rw [e]
  rwa [← BitVec.xor_assoc, BitVec.xor_self, BitVec.zero_xor] at this)
theorem bit8 (r : Nat) (h : r < 8) : ∃ c : BitVec 8, c ≠ 0#8 ∧ IntKind.u8.wrap (2 ^ min r 8) = (c.toNat : Int) ∧ IntKind.u8.wrap (2 ^ r) = (c.toNat : Int) := by
  refine ⟨BitVec.ofNat 8 (2 ^ r), ?_, ?_, ?_⟩ <;> (rcases (by omega : r = 0 ∨ r = 1 ∨ r = 2 ∨ r = 3 ∨ r = 4 ∨ r = 5 ∨ r = 6 ∨ r = 7) with rfl | rfl | rfl | rfl | rfl | rfl | rfl | rfl <;> decide)
/-- a copy of a list of blocks -/
theorem wpList_gl {ops : Array Oper} {rest : List Oper} {o : Oper} {a : Act} {Q : Exit → Act → World → Prop} {X : World} (hgd : o.guard = none) (s x : Operand)
    (ho : o.op = .call { callee := .builtin .append, args := #[s, x], argTypes := #[24, 24] }) (hs : a.eval s = .slice (some ⟨X.heap.size, 0, none⟩) 0 0) (ad : Addr) (m c : Nat) (us : Nat → Value) (hx : a.eval x = .slice (some ad) m c) (hl : LieAt ad m us (X.alloc (.cells #[] 34))) (h1 : ∀ j, j < m → (us j).oneCell' = true) (hm0 : 0 < m) (hm : m ≤ 1000000)
    (h : ∀ g cap Y, RowAt g m us Y → X.heap.size ≤ g → m ≤ cap → Ext X Y → wpList Tryd.prog ops Q rest (a.put o.dst (.slice (some ⟨g, 0, none⟩) m cap)) Y) : wpList Tryd.prog ops Q (o :: rest) a (X.alloc (.cells #[] 34)) := by
  have hX1 : Ext X (X.alloc (.cells #[] 34)) := (Below.refl _ _).alloc (Nat.le_refl _) _
  refine wpList_growE (n := 0) (base := X.heap.size) elem24 hgd s x ho hs (own_empty X X.heap.size 34 us (Nat.le_refl _)) ad m c us us hx hl h1 (fun j hj => rfl) (fun j hj => by rw [Nat.zero_add]) (by omega) (by omega) (Below.size hX1) ?_
  intro v' Y hO hg
  rw [Nat.zero_add] at hO
  obtain ⟨g, cap, rfl, hgb, hc, _, hR⟩ := hO.lies hm0
  exact h g cap Y hR hgb hc (Below.trans hX1 (below_grown (Below.size hX1) hg fun k hk => ((own_empty X X.heap.size 34 us (Nat.le_refl _)).lt k hk).1))
end Go.Proofs.YtedgopionpdfeaaDoor
