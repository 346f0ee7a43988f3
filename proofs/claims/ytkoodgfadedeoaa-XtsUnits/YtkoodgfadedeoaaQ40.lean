/-
  XtsUnits, walked.
-/
import Derived.Test.YtkoodgfadedeoaaQ38
import Derived.Test.YtkoodgfadedeoaaQ39
namespace Go.Proofs.Ytkoodgfadedeoaa
open Go.RowKit Go.BigFrame
theorem PairAt.but {q c1 c2 r b : Nat} {S1 S2 : Nat → BitVec 8} {w X : World} (h : PairAt q c1 c2 r S1 S2 w) (k : But b w X) (h1 : q ≠ b) (h2 : c1 ≠ b) (h3 : c2 ≠ b) : PairAt q c1 c2 r S1 S2 X :=
  ⟨(k.cell ⟨q, 0, none⟩ h.inQ h1).trans h.one, (k.cell ⟨q, 1, none⟩ h.inQ h1).trans h.two, RowAt.but h.blocks k h2, RowAt.but h.tweaks k h3, Nat.lt_of_lt_of_le h.inQ k.size⟩
theorem RCip.but {c kb cap N b : Nat} {K bx ub : Nat → BitVec 8} {X Y : World} (h : RCip c kb cap N K bx ub X) (k : But b X Y) (h1 : c ≠ b) (h2 : kb ≠ b) : RCip c kb cap N K bx ub Y :=
  ⟨(k.cell ⟨c, 0, none⟩ h.inC h1).trans h.head, fun j hj => (k.cell ⟨c, 1 + j, none⟩ h.inC h1).trans (h.box j hj), fun j hj => (k.cell ⟨c, 257 + j, none⟩ h.inC h1).trans (h.unbox j hj), fun j hj => (k.cell ⟨kb, j, none⟩ h.inK h2).trans (h.keys j hj), Nat.lt_of_lt_of_le h.inC k.size, Nat.lt_of_lt_of_le h.inK k.size⟩
theorem RPairAt.but {base q r b : Nat} {S1 S2 : Nat → BitVec 8} {w X : World} (h : RPairAt base q r S1 S2 w) (k : But b w X) (hb : b < base) : RPairAt base q r S1 S2 X := by
  obtain ⟨x1, kb1, cp1, x2, kb2, cp2, h1, h2, h3, h4, h5, h6, h7, h8, h9, h10⟩ := h
  exact ⟨x1, kb1, cp1, x2, kb2, cp2, (k.cell ⟨q, 0, none⟩ h5 (by show q ≠ b; omega)).trans h1, (k.cell ⟨q, 1, none⟩ h5 (by show q ≠ b; omega)).trans h2, h3.but k (by omega) (by omega), h4.but k (by omega) (by omega), Nat.lt_of_lt_of_le h5 k.size, h6, h7, h8, h9, h10⟩
set_option maxRecDepth 20000 in
set_option maxHeartbeats 4000000 in
theorem runitE_bad (q : Addr) (u : Value) (a : Option Addr) (l cap : Nat) (h : l < 16 ∨ 65536 < l) (w : World) :
    Calls Try.prog 45 #[.pointer (some q), u, .slice a l cap, .bool false] w fun e w' => e = .returned (.tuple #[.slice none 0 0, .int .i64 30]) ∧ w' = w := by
  by_cases h1 : l < 16
  · have i0 : (l : Int) < 16 := by omega
    clear h
    go_enter Try.func45, Try.ntmps45
    go_wp2
    refine bodyPost_ret (results_tmp2 Try.results45 _ _ _) rfl ?_
    exact ⟨rfl, rfl⟩
  · have i0 : ¬ (l : Int) < 16 := by omega
    have i1 : (65536 : Int) < (l : Int) := by omega
    clear h
    go_enter Try.func45, Try.ntmps45
    go_wp2
    refine bodyPost_ret (results_tmp2 Try.results45 _ _ _) rfl ?_
    exact ⟨rfl, rfl⟩
set_option maxRecDepth 20000 in
set_option maxHeartbeats 4000000 in
theorem rE_bad (q : Addr) (u : Value) (a : Option Addr) (l cap : Nat) (h : l < 16 ∨ 65536 < l) (w : World) :
    Calls Try.prog 22 #[.pointer (some q), u, .slice a l cap] w fun e w' => e = .returned (.tuple #[.slice none 0 0, .int .i64 30]) ∧ w' = w := by
  go_enter Try.func22, Try.ntmps22
  go_wp2_with (go_at_call 45; refine (runitE_bad q u a l cap h _).mono ?_; rintro e w0 ⟨rfl, rfl⟩)
  refine bodyPost_ret (results_tmp2 Try.results22 _ _ _) rfl ?_
  exact ⟨rfl, rfl⟩
set_option maxRecDepth 20000 in
set_option maxHeartbeats 4000000 in
theorem rE_any (base0 q r l : Nat) (S1 S2 : Nat → BitVec 8) (hr : 1 ≤ r) (hr2 : r ≤ 14) (u : BitVec 64) (v : Value) (D : Nat → BitVec 8) (w : World) (hP : RPairAt base0 q r S1 S2 w) (hl1 : 16 ≤ l) (hl2 : l ≤ 65536) (hD : BV v l D w) :
    Calls Try.prog 22 #[.pointer (some ⟨q, 0, none⟩), .int .u64 (u.toNat : Int), v] w fun e w' => ∃ v', e = .returned (.tuple #[v', .int .i64 0]) ∧ BV v' l (xE S1 S2 r u D l) w' ∧ Ext w w' := by
  rcases hD with ⟨_, h⟩ | ⟨a, cap, rfl, h2, h3⟩
  · omega
  · have k := hideit (runitE_any base0 q r l cap S1 S2 hr hr2 u a D w hP hl1 hl2 h2 h3)
    clear hP h3
    go_enter Try.func22, Try.ntmps22
    go_wp2_with (go_at_call 45; refine k.out.mono ?_; rintro e w0 ⟨v', rfl, hO, hX⟩; have hB := hideit hO.bv; replace hX := hideit hX; clear k hO)
    refine bodyPost_ret (results_tmp2 Try.results22 _ _ _) rfl ?_
    exact ⟨_, rfl, hB.out, hX.out⟩
set_option maxRecDepth 20000 in
set_option maxHeartbeats 4000000 in
theorem runitD_bad (q : Addr) (u : Value) (a : Option Addr) (l cap : Nat) (h : l < 16 ∨ 65536 < l) (w : World) :
    Calls Try.prog 45 #[.pointer (some q), u, .slice a l cap, .bool true] w fun e w' => e = .returned (.tuple #[.slice none 0 0, .int .i64 30]) ∧ w' = w := by
  by_cases h1 : l < 16
  · have i0 : (l : Int) < 16 := by omega
    clear h
    go_enter Try.func45, Try.ntmps45
    go_wp2
    refine bodyPost_ret (results_tmp2 Try.results45 _ _ _) rfl ?_
    exact ⟨rfl, rfl⟩
  · have i0 : ¬ (l : Int) < 16 := by omega
    have i1 : (65536 : Int) < (l : Int) := by omega
    clear h
    go_enter Try.func45, Try.ntmps45
    go_wp2
    refine bodyPost_ret (results_tmp2 Try.results45 _ _ _) rfl ?_
    exact ⟨rfl, rfl⟩
set_option maxRecDepth 20000 in
set_option maxHeartbeats 4000000 in
theorem rD_bad (q : Addr) (u : Value) (a : Option Addr) (l cap : Nat) (h : l < 16 ∨ 65536 < l) (w : World) :
    Calls Try.prog 24 #[.pointer (some q), u, .slice a l cap] w fun e w' => e = .returned (.tuple #[.slice none 0 0, .int .i64 30]) ∧ w' = w := by
  go_enter Try.func24, Try.ntmps24
  go_wp2_with (go_at_call 45; refine (runitD_bad q u a l cap h _).mono ?_; rintro e w0 ⟨rfl, rfl⟩)
  refine bodyPost_ret (results_tmp2 Try.results24 _ _ _) rfl ?_
  exact ⟨rfl, rfl⟩
set_option maxRecDepth 20000 in
set_option maxHeartbeats 4000000 in
theorem rD_any (base0 q r l : Nat) (S1 S2 : Nat → BitVec 8) (hr : 1 ≤ r) (hr2 : r ≤ 14) (u : BitVec 64) (v : Value) (D : Nat → BitVec 8) (w : World) (hP : RPairAt base0 q r S1 S2 w) (hl1 : 16 ≤ l) (hl2 : l ≤ 65536) (hD : BV v l D w) :
    Calls Try.prog 24 #[.pointer (some ⟨q, 0, none⟩), .int .u64 (u.toNat : Int), v] w fun e w' => ∃ v', e = .returned (.tuple #[v', .int .i64 0]) ∧ BV v' l (xD S1 S2 r u D l) w' ∧ Ext w w' := by
  rcases hD with ⟨_, h⟩ | ⟨a, cap, rfl, h2, h3⟩
  · omega
  · have k := hideit (runitD_any base0 q r l cap S1 S2 hr hr2 u a D w hP hl1 hl2 h2 h3)
    clear hP h3
    go_enter Try.func24, Try.ntmps24
    go_wp2_with (go_at_call 45; refine k.out.mono ?_; rintro e w0 ⟨v', rfl, hO, hX⟩; have hB := hideit hO.bv; replace hX := hideit hX; clear k hO)
    refine bodyPost_ret (results_tmp2 Try.results24 _ _ _) rfl ?_
    exact ⟨_, rfl, hB.out, hX.out⟩
theorem bothE (q c1 c2 base0 q2 r m : Nat) (S1 S2 : Nat → BitVec 8) (hr : 1 ≤ r) (hr2 : r ≤ 14) (u : BitVec 64) (Y : Nat → BitVec 8) : ∃ (E : Int) (n : Nat) (G : Nat → BitVec 8),
    (∀ v X, PairAt q c1 c2 r S1 S2 X → BV v m Y X → Calls Try.prog 21 #[.pointer (some ⟨q, 0, none⟩), .int .u64 (u.toNat : Int), v] X fun e w' => ∃ v', e = .returned (.tuple #[v', .int .i64 E]) ∧ BV v' n G w' ∧ Ext X w') ∧
    (∀ v X, RPairAt base0 q2 r S1 S2 X → BV v m Y X → Calls Try.prog 22 #[.pointer (some ⟨q2, 0, none⟩), .int .u64 (u.toNat : Int), v] X fun e w' => ∃ v', e = .returned (.tuple #[v', .int .i64 E]) ∧ BV v' n G w' ∧ Ext X w') := by
  by_cases h : m < 16 ∨ 65536 < m
  · refine ⟨30, 0, fun _ => 0#8, fun v X _ hv => ?_, fun v X _ hv => ?_⟩
    · rcases hv with ⟨rfl, rfl⟩ | ⟨a, cap, rfl, _, _⟩
      · exact (xenc_bad ⟨q, 0, none⟩ _ none 0 0 h X).mono fun e w' hh => ⟨_, hh.1, .inl ⟨rfl, rfl⟩, by rw [hh.2]; exact Ext.refl _⟩
      · exact (xenc_bad ⟨q, 0, none⟩ _ (some a) m cap h X).mono fun e w' hh => ⟨_, hh.1, .inl ⟨rfl, rfl⟩, by rw [hh.2]; exact Ext.refl _⟩
    · rcases hv with ⟨rfl, rfl⟩ | ⟨a, cap, rfl, _, _⟩
      · exact (rE_bad ⟨q2, 0, none⟩ _ none 0 0 h X).mono fun e w' hh => ⟨_, hh.1, .inl ⟨rfl, rfl⟩, by rw [hh.2]; exact Ext.refl _⟩
      · exact (rE_bad ⟨q2, 0, none⟩ _ (some a) m cap h X).mono fun e w' hh => ⟨_, hh.1, .inl ⟨rfl, rfl⟩, by rw [hh.2]; exact Ext.refl _⟩
  · exact ⟨0, m, xE S1 S2 r u Y m, fun v X hP hv => (xencV q c1 c2 r m S1 S2 hr hr2 u v Y X hP (by omega) (by omega) hv).mono fun e w' ⟨v', h1, h2, h3⟩ => ⟨v', h1, h2.bv, h3⟩, fun v X hP hv => rE_any base0 q2 r m S1 S2 hr hr2 u v Y X hP (by omega) (by omega) hv⟩
theorem bothD (q c1 c2 base0 q2 r m : Nat) (S1 S2 : Nat → BitVec 8) (hr : 1 ≤ r) (hr2 : r ≤ 14) (u : BitVec 64) (Y : Nat → BitVec 8) : ∃ (E : Int) (n : Nat) (G : Nat → BitVec 8),
    (∀ v X, PairAt q c1 c2 r S1 S2 X → BV v m Y X → Calls Try.prog 23 #[.pointer (some ⟨q, 0, none⟩), .int .u64 (u.toNat : Int), v] X fun e w' => ∃ v', e = .returned (.tuple #[v', .int .i64 E]) ∧ BV v' n G w' ∧ Ext X w') ∧
    (∀ v X, RPairAt base0 q2 r S1 S2 X → BV v m Y X → Calls Try.prog 24 #[.pointer (some ⟨q2, 0, none⟩), .int .u64 (u.toNat : Int), v] X fun e w' => ∃ v', e = .returned (.tuple #[v', .int .i64 E]) ∧ BV v' n G w' ∧ Ext X w') := by
  by_cases h : m < 16 ∨ 65536 < m
  · refine ⟨30, 0, fun _ => 0#8, fun v X _ hv => ?_, fun v X _ hv => ?_⟩
    · rcases hv with ⟨rfl, rfl⟩ | ⟨a, cap, rfl, _, _⟩
      · exact (xdec_bad ⟨q, 0, none⟩ _ none 0 0 h X).mono fun e w' hh => ⟨_, hh.1, .inl ⟨rfl, rfl⟩, by rw [hh.2]; exact Ext.refl _⟩
      · exact (xdec_bad ⟨q, 0, none⟩ _ (some a) m cap h X).mono fun e w' hh => ⟨_, hh.1, .inl ⟨rfl, rfl⟩, by rw [hh.2]; exact Ext.refl _⟩
    · rcases hv with ⟨rfl, rfl⟩ | ⟨a, cap, rfl, _, _⟩
      · exact (rD_bad ⟨q2, 0, none⟩ _ none 0 0 h X).mono fun e w' hh => ⟨_, hh.1, .inl ⟨rfl, rfl⟩, by rw [hh.2]; exact Ext.refl _⟩
      · exact (rD_bad ⟨q2, 0, none⟩ _ (some a) m cap h X).mono fun e w' hh => ⟨_, hh.1, .inl ⟨rfl, rfl⟩, by rw [hh.2]; exact Ext.refl _⟩
  · exact ⟨0, m, xD S1 S2 r u Y m, fun v X hP hv => (xdecV q c1 c2 r m S1 S2 hr hr2 u v Y X hP (by omega) (by omega) hv).mono fun e w' ⟨v', h1, h2, h3⟩ => ⟨v', h1, h2.bv, h3⟩, fun v X hP hv => rD_any base0 q2 r m S1 S2 hr hr2 u v Y X hP (by omega) (by omega) hv⟩
theorem bv_but {v : Value} {l b : Nat} {f : Nat → BitVec 8} {w X : World} (h : BV v l f w) (k : But b w X) (hb : ∀ a n c, v = .slice (some a) n c → a.block ≠ b) : BV v l f X := by
  rcases h with h | ⟨a, cap, h1, h2, h3⟩
  · exact .inl h
  · exact .inr ⟨a, cap, h1, h2, fun j hj => (k.cell (a.add j) (by rw [add_block]; exact h3.2) (by rw [add_block]; exact hb a l cap h1)).trans (h3.1 j hj), Nat.lt_of_lt_of_le h3.2 k.size⟩
theorem bv_form {v : Value} {l : Nat} {b : Nat → BitVec 8} {w : World} (h : BV v l b w) : ∃ o c, v = .slice o l c := by
  rcases h with ⟨rfl, rfl⟩ | ⟨a, cap, rfl, _, _⟩
  · exact ⟨_, _, rfl⟩
  · exact ⟨_, _, rfl⟩
set_option maxRecDepth 20000 in
set_option maxHeartbeats 4000000 in
theorem units_bad (v0 v2 : Value) (l m : Nat) (D Y : Nat → BitVec 8) (u : BitVec 64) (w : World) (hl : l ≤ 140737488351232) (hm : m ≤ 140737488351232) (hK : Hid (BV v0 l D w)) (hD : Hid (BV v2 m Y w))
    (hn : Hid (∀ v X, BV v l D X → Calls Try.prog 18 #[v] X fun e w' => e = .returned (.tuple #[.pointer none, .int .i64 20]) ∧ Ext X w'))
    (hr : Hid (∀ v X, BV v l D X → Calls Try.prog 19 #[v] X fun e w' => e = .returned (.tuple #[.pointer none, .int .i64 20]) ∧ Ext X w')) :
    Calls Try.prog 5 #[v0, .int .u64 (u.toNat : Int), v2] w fun e w' => e = .returned (.bool true) ∧ Below w.heap.size w w' := by
  obtain ⟨oa, ca, rfl⟩ := bv_form hK.out
  obtain ⟨ob, cb, rfl⟩ := bv_form hD.out
  have O0 := hideit (own_empty w w.heap.size 5 (yv D) (Nat.le_refl _))
  have hE0 := hideit ((Below.refl w.heap.size w).alloc (Nat.le_refl _) (.cells #[] 5))
  go_enter Try.func5, Try.ntmps5
  go_upto_region 1 with (fail)
  refine wp_region_lit ?_
  refine wpList_to rfl (.slice (some ⟨w.heap.size, 0, none⟩) 0 0) (w.alloc (.cells #[] 5)) (by simp [go_sem]) ?_
  simp only [Act.put, List.setIfInBounds_toArray, List.set_cons_zero, List.set_cons_succ]
  refine wpList_run rfl (.slice oa l ca) (by simp [go_sem]) ?_
  simp only [Act.put, List.setIfInBounds_toArray, List.set_cons_zero, List.set_cons_succ]
  refine wpList_growV (n := 0) (base := w.heap.size) elem22 rfl (.tmp 20) (.tmp 21) rfl rfl O0.out (.slice oa l ca) l D (yv D) rfl (hK.out.ext hE0.out) (fun j hj => absurd hj (by omega)) (fun j hj => by rw [Nat.zero_add]) (by omega) (Below.size hE0.out) ?_
  intro vo w1 hO hg
  have hX : Ext w w1 := gr_ext hE0.out hg (fun k h => (O0.out.lt k h).1)
  rw [Nat.zero_add] at hO
  have O1 := hideit hO
  have hE1 := hideit hX
  clear O0 hO hg hX hE0
  simp only [Act.put, List.setIfInBounds_toArray, List.set_cons_zero, List.set_cons_succ]
  have N0 := hideit (own_empty w1 w1.heap.size 5 (yv Y) (Nat.le_refl _))
  have hX2 : Ext w1 (w1.alloc (.cells #[] 5)) := (Below.refl _ _).alloc (Nat.le_refl _) _
  have hE2 := hideit (Ext.trans hE1.out hX2)
  replace hX2 := hideit hX2
  refine wpList_to rfl (.slice (some ⟨w1.heap.size, 0, none⟩) 0 0) (w1.alloc (.cells #[] 5)) (by simp [go_sem]) ?_
  simp only [Act.put, List.setIfInBounds_toArray, List.set_cons_zero, List.set_cons_succ]
  refine wpList_run rfl (.slice ob m cb) (by simp [go_sem]) ?_
  simp only [Act.put, List.setIfInBounds_toArray, List.set_cons_zero, List.set_cons_succ]
  refine wpList_growV (n := 0) (base := w1.heap.size) elem22 rfl (.tmp 23) (.tmp 24) rfl rfl N0.out (.slice ob m cb) m Y (yv Y) rfl (hD.out.ext hE2.out) (fun j hj => absurd hj (by omega)) (fun j hj => by rw [Nat.zero_add]) (by omega) (Below.size hX2.out) ?_
  intro vd w3 hO hg
  have hX : Ext w1 w3 := gr_ext hX2.out hg (fun k h => (N0.out.lt k h).1)
  rw [Nat.zero_add] at hO
  have hE3 := hideit (Ext.trans hE1.out hX)
  have V3 := hideit hO.bv
  have O3 := hideit (O1.out.ext hX)
  have W3 := hideit O3.out.bv
  have K3 := hideit (hK.out.ext hE3.out)
  have D3 := hideit (hD.out.ext hE3.out)
  obtain ⟨ov, co, rfl⟩ := bv_form W3.out
  obtain ⟨od, cd, rfl⟩ := bv_form V3.out
  clear N0 hO hg hX hE1 hE2 hX2 O1 hK hD
  simp only [Act.put, List.setIfInBounds_toArray, List.set_cons_zero, List.set_cons_succ]
  go_upto_region 2 with (fail)
  refine wp_region_lit ?_
  refine wpList_run rfl (.slice ov l co) (by simp [go_sem]) ?_
  simp only [Act.put, List.setIfInBounds_toArray, List.set_cons_zero, List.set_cons_succ]
  refine wpList_call rfl (by simp [go_sem]; exact ⟨rfl, rfl⟩) ?_
  refine (hn.out _ w3 W3.out).mono ?_
  rintro e w4 ⟨rfl, hX⟩
  refine ⟨_, rfl, ?_⟩
  simp only [Act.put, List.setIfInBounds_toArray, List.set_cons_zero, List.set_cons_succ]
  have O4 := hideit (O3.out.ext hX)
  have V4 := hideit (V3.out.ext hX)
  have W4 := hideit (W3.out.ext hX)
  have K4 := hideit (K3.out.ext hX)
  have D4 := hideit (D3.out.ext hX)
  have hE4 := hideit (Ext.trans hE3.out hX)
  clear hE3 O3 V3 W3 K3 D3
  clear hX
  go_upto_region 3 with (fail)
  refine wp_region_lit ?_
  refine wpList_run rfl (.slice oa l ca) (by simp [go_sem]) ?_
  simp only [Act.put, List.setIfInBounds_toArray, List.set_cons_zero, List.set_cons_succ]
  refine wpList_call rfl (by simp [go_sem]; exact ⟨rfl, rfl⟩) ?_
  refine (hr.out _ w4 K4.out).mono ?_
  rintro e w5 ⟨rfl, hX⟩
  refine ⟨_, rfl, ?_⟩
  simp only [Act.put, List.setIfInBounds_toArray, List.set_cons_zero, List.set_cons_succ]
  have O5 := hideit (O4.out.ext hX)
  have V5 := hideit (V4.out.ext hX)
  have W5 := hideit (W4.out.ext hX)
  have K5 := hideit (K4.out.ext hX)
  have D5 := hideit (D4.out.ext hX)
  have hE5 := hideit (Ext.trans hE4.out hX)
  clear hE4 O4 V4 W4 K4 D4
  clear hX
  go_upto_region 4 with (fail)
  refine wp_region_lit ?_
  refine wpList_call rfl (by simp [go_sem]; exact ⟨rfl, rfl⟩) ?_
  refine (xlives_any w5).mono ?_
  rintro e w6 ⟨rfl, hX⟩
  refine ⟨_, rfl, ?_⟩
  simp only [Act.put, List.setIfInBounds_toArray, List.set_cons_zero, List.set_cons_succ]
  have O6 := hideit (O5.out.ext hX)
  have V6 := hideit (V5.out.ext hX)
  have W6 := hideit (W5.out.ext hX)
  have K6 := hideit (K5.out.ext hX)
  have D6 := hideit (D5.out.ext hX)
  have hE6 := hideit (Ext.trans hE5.out hX)
  clear hE5 O5 V5 W5 K5 D5
  clear hX
  have hc1 := convV _ l D w6 W6.out
  have hc2 := convV _ l D w6 K6.out
  generalize bstr l D = s1 at *
  refine wpList_run rfl (.bool false) (by simp [go_sem]) ?_
  simp only [Act.put, List.setIfInBounds_toArray, List.set_cons_zero, List.set_cons_succ]
  refine wpList_run rfl (.bool false) (by simp [go_sem]) ?_
  simp only [Act.put, List.setIfInBounds_toArray, List.set_cons_zero, List.set_cons_succ]
  refine wpList_runW rfl (.int .i64 20) (by simp [go_sem]) ?_
  simp only [Act.put, List.setIfInBounds_toArray, List.set_cons_zero, List.set_cons_succ]
  refine wpList_runW rfl (.int .i64 20) (by simp [go_sem]) ?_
  simp only [Act.put, List.setIfInBounds_toArray, List.set_cons_zero, List.set_cons_succ]
  refine wpList_runW rfl (.bool false) (by simp [go_sem]) ?_
  simp only [Act.put, List.setIfInBounds_toArray, List.set_cons_zero, List.set_cons_succ]
  refine wpList_run rfl (.bool false) (by simp [go_sem]) ?_
  simp only [Act.put, List.setIfInBounds_toArray, List.set_cons_zero, List.set_cons_succ]
  refine wpList_run rfl (.bool false) (by simp [go_sem]) ?_
  simp only [Act.put, List.setIfInBounds_toArray, List.set_cons_zero, List.set_cons_succ]
  refine wpList_runW rfl (.pointer none) (by simp [go_sem]) ?_
  simp only [Act.put, List.setIfInBounds_toArray, List.set_cons_zero, List.set_cons_succ]
  refine wpList_runW rfl (.bool true) (by simp [go_sem]) ?_
  simp only [Act.put, List.setIfInBounds_toArray, List.set_cons_zero, List.set_cons_succ]
  refine wpList_runW rfl (.pointer none) (by simp [go_sem]) ?_
  simp only [Act.put, List.setIfInBounds_toArray, List.set_cons_zero, List.set_cons_succ]
  refine wpList_runW rfl (.bool true) (by simp [go_sem]) ?_
  simp only [Act.put, List.setIfInBounds_toArray, List.set_cons_zero, List.set_cons_succ]
  refine wpList_runW rfl (.bool false) (by simp [go_sem]) ?_
  simp only [Act.put, List.setIfInBounds_toArray, List.set_cons_zero, List.set_cons_succ]
  refine wpList_run rfl (.bool false) (by simp [go_sem]) ?_
  simp only [Act.put, List.setIfInBounds_toArray, List.set_cons_zero, List.set_cons_succ]
  refine wpList_run rfl (.bool false) (by simp [go_sem]) ?_
  simp only [Act.put, List.setIfInBounds_toArray, List.set_cons_zero, List.set_cons_succ]
  refine wpList_runW rfl (.slice ov l co) (by simp [go_sem]) ?_
  simp only [Act.put, List.setIfInBounds_toArray, List.set_cons_zero, List.set_cons_succ]
  refine wpList_runW rfl (.string s1) (by simp [go_sem, hc1]) ?_
  simp only [Act.put, List.setIfInBounds_toArray, List.set_cons_zero, List.set_cons_succ]
  refine wpList_runW rfl (.slice oa l ca) (by simp [go_sem]) ?_
  simp only [Act.put, List.setIfInBounds_toArray, List.set_cons_zero, List.set_cons_succ]
  refine wpList_runW rfl (.string s1) (by simp [go_sem, hc2]) ?_
  simp only [Act.put, List.setIfInBounds_toArray, List.set_cons_zero, List.set_cons_succ]
  refine wpList_runW rfl (.bool false) (by simp [go_sem]) ?_
  simp only [Act.put, List.setIfInBounds_toArray, List.set_cons_zero, List.set_cons_succ]
  refine wpList_run rfl (.bool false) (by simp [go_sem]) ?_
  simp only [Act.put, List.setIfInBounds_toArray, List.set_cons_zero, List.set_cons_succ]
  clear hc1 hc2 O6 V6 W6 K6 D6 hn hr
  go_wp2
  go_ret
  exact ⟨rfl, hE6.out⟩
set_option maxRecDepth 20000 in
set_option maxHeartbeats 4000000 in
theorem units_good (v0 v2 : Value) (l m r : Nat) (S1 S2 D Y : Nat → BitVec 8) (hr1 : 1 ≤ r) (hr2 : r ≤ 14) (u : BitVec 64) (w : World) (hl : 1 ≤ l ∧ l ≤ 64) (hm : m ≤ 140737488351232) (hK : Hid (BV v0 l D w)) (hD : Hid (BV v2 m Y w))
    (hn : Hid (∀ v X, BV v l D X → Calls Try.prog 18 #[v] X fun e w' => ∃ q c1 c2, e = .returned (.tuple #[.pointer (some ⟨q, 0, none⟩), .int .i64 0]) ∧ PairAt q c1 c2 r S1 S2 w' ∧ Ext X w' ∧ X.heap.size ≤ q ∧ X.heap.size ≤ c1 ∧ X.heap.size ≤ c2))
    (hr : Hid (∀ v X, BV v l D X → Calls Try.prog 19 #[v] X fun e w' => ∃ q, e = .returned (.tuple #[.pointer (some ⟨q, 0, none⟩), .int .i64 0]) ∧ RPairAt X.heap.size q r S1 S2 w' ∧ Ext X w')) :
    Calls Try.prog 5 #[v0, .int .u64 (u.toNat : Int), v2] w fun e w' => e = .returned (.bool true) ∧ Below w.heap.size w w' := by
  have hDw := hD
  obtain ⟨oa, ca, rfl⟩ := bv_form hK.out
  obtain ⟨ob, cb, rfl⟩ := bv_form hD.out
  have O0 := hideit (own_empty w w.heap.size 5 (yv D) (Nat.le_refl _))
  have hE0 := hideit ((Below.refl w.heap.size w).alloc (Nat.le_refl _) (.cells #[] 5))
  go_enter Try.func5, Try.ntmps5
  go_upto_region 1 with (fail)
  refine wp_region_lit ?_
  refine wpList_to rfl (.slice (some ⟨w.heap.size, 0, none⟩) 0 0) (w.alloc (.cells #[] 5)) (by simp [go_sem]) ?_
  simp only [Act.put, List.setIfInBounds_toArray, List.set_cons_zero, List.set_cons_succ]
  refine wpList_run rfl (.slice oa l ca) (by simp [go_sem]) ?_
  simp only [Act.put, List.setIfInBounds_toArray, List.set_cons_zero, List.set_cons_succ]
  refine wpList_growV (n := 0) (base := w.heap.size) elem22 rfl (.tmp 20) (.tmp 21) rfl rfl O0.out (.slice oa l ca) l D (yv D) rfl (hK.out.ext hE0.out) (fun j hj => absurd hj (by omega)) (fun j hj => by rw [Nat.zero_add]) (by omega) (Below.size hE0.out) ?_
  intro vo w1 hO hg
  have hX : Ext w w1 := gr_ext hE0.out hg (fun k h => (O0.out.lt k h).1)
  rw [Nat.zero_add] at hO
  have O1 := hideit hO
  have hE1 := hideit hX
  clear O0 hO hg hX hE0
  simp only [Act.put, List.setIfInBounds_toArray, List.set_cons_zero, List.set_cons_succ]
  have N0 := hideit (own_empty w1 w1.heap.size 5 (yv Y) (Nat.le_refl _))
  have hX2 : Ext w1 (w1.alloc (.cells #[] 5)) := (Below.refl _ _).alloc (Nat.le_refl _) _
  have hE2 := hideit (Ext.trans hE1.out hX2)
  replace hX2 := hideit hX2
  refine wpList_to rfl (.slice (some ⟨w1.heap.size, 0, none⟩) 0 0) (w1.alloc (.cells #[] 5)) (by simp [go_sem]) ?_
  simp only [Act.put, List.setIfInBounds_toArray, List.set_cons_zero, List.set_cons_succ]
  refine wpList_run rfl (.slice ob m cb) (by simp [go_sem]) ?_
  simp only [Act.put, List.setIfInBounds_toArray, List.set_cons_zero, List.set_cons_succ]
  refine wpList_growV (n := 0) (base := w1.heap.size) elem22 rfl (.tmp 23) (.tmp 24) rfl rfl N0.out (.slice ob m cb) m Y (yv Y) rfl (hD.out.ext hE2.out) (fun j hj => absurd hj (by omega)) (fun j hj => by rw [Nat.zero_add]) (by omega) (Below.size hX2.out) ?_
  intro vd w3 hO hg
  have hX : Ext w1 w3 := gr_ext hX2.out hg (fun k h => (N0.out.lt k h).1)
  rw [Nat.zero_add] at hO
  have hE3 := hideit (Ext.trans hE1.out hX)
  have V3 := hideit hO.bv
  have hvd : Hid (∀ k, vo.ownBlock = some k → ∀ a n c, vd = .slice (some a) n c → a.block ≠ k) := hideit (fun k hk a n c e => by
    have h1 := (O1.out.lt k hk).2
    rcases Nat.eq_zero_or_pos m with h0 | h0
    · subst h0
      rcases hO.2 with ⟨h2, _⟩ | ⟨g, cp, cur, h2, h3, _⟩
      · rw [e] at h2; cases h2
      · rw [e] at h2; injection h2 with h2 _ _; injection h2 with h2; rw [h2]; show g ≠ k; omega
    · obtain ⟨g, cp, h2, h3, _⟩ := hO.lies h0
      rw [e] at h2; injection h2 with h2 _ _; injection h2 with h2; rw [h2]; show g ≠ k; omega)
  have O3 := hideit (O1.out.ext hX)
  have W3 := hideit O3.out.bv
  have K3 := hideit (hK.out.ext hE3.out)
  have D3 := hideit (hD.out.ext hE3.out)
  obtain ⟨ov, co, rfl⟩ := bv_form W3.out
  obtain ⟨od, cd, rfl⟩ := bv_form V3.out
  clear N0 hO hg hX hE1 hE2 hX2 O1 hK hD
  simp only [Act.put, List.setIfInBounds_toArray, List.set_cons_zero, List.set_cons_succ]
  go_upto_region 2 with (fail)
  refine wp_region_lit ?_
  refine wpList_run rfl (.slice ov l co) (by simp [go_sem]) ?_
  simp only [Act.put, List.setIfInBounds_toArray, List.set_cons_zero, List.set_cons_succ]
  refine wpList_call rfl (by simp [go_sem]; exact ⟨rfl, rfl⟩) ?_
  refine (hn.out _ w3 W3.out).mono ?_
  rintro e w4 ⟨q, c1, c2, rfl, hP, hX, b1, b2, b3⟩
  refine ⟨_, rfl, ?_⟩
  simp only [Act.put, List.setIfInBounds_toArray, List.set_cons_zero, List.set_cons_succ]
  have P4 := hideit hP
  have b0 : Hid (∀ k, (Value.slice ov l co).ownBlock = some k → k ≠ q ∧ k ≠ c1 ∧ k ≠ c2) := hideit (fun k hk => by have := (O3.out.lt k hk).2; omega)
  clear hP b1 b2 b3
  have O4 := hideit (O3.out.ext hX)
  have V4 := hideit (V3.out.ext hX)
  have W4 := hideit (W3.out.ext hX)
  have K4 := hideit (K3.out.ext hX)
  have D4 := hideit (D3.out.ext hX)
  have hE4 := hideit (Ext.trans hE3.out hX)
  clear hE3 O3 V3 W3 K3 D3
  clear hX
  go_upto_region 3 with (fail)
  refine wp_region_lit ?_
  refine wpList_run rfl (.slice oa l ca) (by simp [go_sem]) ?_
  simp only [Act.put, List.setIfInBounds_toArray, List.set_cons_zero, List.set_cons_succ]
  refine wpList_call rfl (by simp [go_sem]; exact ⟨rfl, rfl⟩) ?_
  refine (hr.out _ w4 K4.out).mono ?_
  rintro e w5 ⟨q2, rfl, hP, hX⟩
  refine ⟨_, rfl, ?_⟩
  simp only [Act.put, List.setIfInBounds_toArray, List.set_cons_zero, List.set_cons_succ]
  have R5 := hideit hP
  have b4 : Hid (∀ k, (Value.slice ov l co).ownBlock = some k → k < w4.heap.size) := hideit (fun k hk => (O4.out.lt k hk).2)
  clear hP
  have O5 := hideit (O4.out.ext hX)
  have V5 := hideit (V4.out.ext hX)
  have W5 := hideit (W4.out.ext hX)
  have K5 := hideit (K4.out.ext hX)
  have D5 := hideit (D4.out.ext hX)
  have P5 := hideit (P4.out.ext hX)
  have hE5 := hideit (Ext.trans hE4.out hX)
  clear hE4 O4 V4 W4 K4 D4 P4
  clear hX
  generalize w4.heap.size = base at *
  go_upto_region 4 with (fail)
  refine wp_region_lit ?_
  refine wpList_call rfl (by simp [go_sem]; exact ⟨rfl, rfl⟩) ?_
  refine (xlives_any w5).mono ?_
  rintro e w6 ⟨rfl, hX⟩
  refine ⟨_, rfl, ?_⟩
  simp only [Act.put, List.setIfInBounds_toArray, List.set_cons_zero, List.set_cons_succ]
  have O6 := hideit (O5.out.ext hX)
  have V6 := hideit (V5.out.ext hX)
  have W6 := hideit (W5.out.ext hX)
  have K6 := hideit (K5.out.ext hX)
  have D6 := hideit (D5.out.ext hX)
  have P6 := hideit (P5.out.ext hX)
  have R6 := hideit (R5.out.ext hX)
  have hE6 := hideit (Ext.trans hE5.out hX)
  clear hE5 O5 V5 W5 K5 D5 P5 R5
  clear hX
  have hc1 := convV _ l D w6 W6.out
  have hc2 := convV _ l D w6 K6.out
  generalize bstr l D = s1 at *
  refine wpList_run rfl (.bool false) (by simp [go_sem]) ?_
  simp only [Act.put, List.setIfInBounds_toArray, List.set_cons_zero, List.set_cons_succ]
  refine wpList_run rfl (.bool false) (by simp [go_sem]) ?_
  simp only [Act.put, List.setIfInBounds_toArray, List.set_cons_zero, List.set_cons_succ]
  refine wpList_runW rfl (.int .i64 0) (by simp [go_sem]) ?_
  simp only [Act.put, List.setIfInBounds_toArray, List.set_cons_zero, List.set_cons_succ]
  refine wpList_runW rfl (.int .i64 0) (by simp [go_sem]) ?_
  simp only [Act.put, List.setIfInBounds_toArray, List.set_cons_zero, List.set_cons_succ]
  refine wpList_runW rfl (.bool false) (by simp [go_sem]) ?_
  simp only [Act.put, List.setIfInBounds_toArray, List.set_cons_zero, List.set_cons_succ]
  refine wpList_run rfl (.bool false) (by simp [go_sem]) ?_
  simp only [Act.put, List.setIfInBounds_toArray, List.set_cons_zero, List.set_cons_succ]
  refine wpList_run rfl (.bool false) (by simp [go_sem]) ?_
  simp only [Act.put, List.setIfInBounds_toArray, List.set_cons_zero, List.set_cons_succ]
  refine wpList_runW rfl (.pointer (some ⟨q, 0, none⟩)) (by simp [go_sem]) ?_
  simp only [Act.put, List.setIfInBounds_toArray, List.set_cons_zero, List.set_cons_succ]
  refine wpList_runW rfl (.bool false) (by simp [go_sem]) ?_
  simp only [Act.put, List.setIfInBounds_toArray, List.set_cons_zero, List.set_cons_succ]
  refine wpList_runW rfl (.pointer (some ⟨q2, 0, none⟩)) (by simp [go_sem]) ?_
  simp only [Act.put, List.setIfInBounds_toArray, List.set_cons_zero, List.set_cons_succ]
  refine wpList_runW rfl (.bool false) (by simp [go_sem]) ?_
  simp only [Act.put, List.setIfInBounds_toArray, List.set_cons_zero, List.set_cons_succ]
  refine wpList_runW rfl (.bool false) (by simp [go_sem]) ?_
  simp only [Act.put, List.setIfInBounds_toArray, List.set_cons_zero, List.set_cons_succ]
  refine wpList_run rfl (.bool false) (by simp [go_sem]) ?_
  simp only [Act.put, List.setIfInBounds_toArray, List.set_cons_zero, List.set_cons_succ]
  refine wpList_run rfl (.bool false) (by simp [go_sem]) ?_
  simp only [Act.put, List.setIfInBounds_toArray, List.set_cons_zero, List.set_cons_succ]
  refine wpList_runW rfl (.slice ov l co) (by simp [go_sem]) ?_
  simp only [Act.put, List.setIfInBounds_toArray, List.set_cons_zero, List.set_cons_succ]
  refine wpList_runW rfl (.string s1) (by simp [go_sem, hc1]) ?_
  simp only [Act.put, List.setIfInBounds_toArray, List.set_cons_zero, List.set_cons_succ]
  refine wpList_runW rfl (.slice oa l ca) (by simp [go_sem]) ?_
  simp only [Act.put, List.setIfInBounds_toArray, List.set_cons_zero, List.set_cons_succ]
  refine wpList_runW rfl (.string s1) (by simp [go_sem, hc2]) ?_
  simp only [Act.put, List.setIfInBounds_toArray, List.set_cons_zero, List.set_cons_succ]
  refine wpList_runW rfl (.bool false) (by simp [go_sem]) ?_
  simp only [Act.put, List.setIfInBounds_toArray, List.set_cons_zero, List.set_cons_succ]
  refine wpList_run rfl (.bool false) (by simp [go_sem]) ?_
  simp only [Act.put, List.setIfInBounds_toArray, List.set_cons_zero, List.set_cons_succ]
  clear hc1 hc2 W6 K6 hn hr
  obtain ⟨kb, kc, ek, hwk, hkc, _, RK⟩ := O6.out.lies (by omega)
  injection ek with ek _ _
  subst ek
  have bk := hideit (b0.out kb rfl)
  have bk2 := hideit (b4.out kb rfl)
  replace RK := hideit RK
  replace hwk := hideit hwk
  obtain ⟨E1, n1, G1, kx, rx⟩ := bothE q c1 c2 base q2 r m S1 S2 hr1 hr2 u Y
  obtain ⟨E2, n2, G2, ky, ry⟩ := bothD q c1 c2 base q2 r m S1 S2 hr1 hr2 u Y
  replace kx := hideit kx
  replace rx := hideit rx
  replace ky := hideit ky
  replace ry := hideit ry
  clear b0 b4 O6 hkc
  have hvb : Hid (∀ X, But kb w6 X → BV (.slice od m cd) m Y X) := hideit (fun X hX => bv_but V6.out hX (hvd.out kb rfl))
  go_upto_region 8 with (fail)
  go_wp2
  go_loopw [13] (fun i X => ∃ (k : Nat) (g : Nat → BitVec 8), k ≤ l ∧ i = .int .i64 k ∧ RowAt kb l (yv g) X ∧ But kb w6 X) (fun i _ => l - (intOf i).toNat)
  case atStart => exact ⟨0, D, Nat.zero_le _, rfl, RK.out, But.refl _ _⟩
  case round =>
    clear RK
    obtain ⟨k, g, hk, rfl, hR, hB⟩ := hrel
    have RK := hideit hR
    have BK := hideit hB
    clear hR hB
    by_cases hlt : k < l
    · have k0 : (0 : Int) ≤ (k : Int) := by omega
      have k1 : (k : Int) < (l : Int) := by omega
      have k2 : (k : Int) < 64 := by omega
      have e1 : wr.cell? ⟨kb, k, none⟩ = some (.int .u8 ((g k).toNat : Int)) := RK.out.1 k hlt
      have e2 : wr.frozen? ⟨kb, k, none⟩ = false := RK.out.2.1 k hlt
      have e3 : Hid ((((g k).toNat : Int) + 1) % 256 = ((g k + 1#8).toNat : Int)) := hideit (by
        have h9 : (g k + 1#8).toNat = ((g k).toNat + 1) % 256 := by rw [BitVec.toNat_add]; rfl
        rw [h9]
        omega)
      clear kx rx ky ry hvb
      go_wp2
      exact ⟨⟨k + 1, fun j => if j = k then g k + 1#8 else g j, by omega, by go_num, (RK.out.set k _).congr (fun j hj => by
        by_cases h : j = k
        · rw [if_pos h, e3.out]; simp only [yv, if_pos h]
        · rw [if_neg h]; simp only [yv, if_neg h]), BK.out.set k _⟩, by simp [intOf]; omega⟩
    · obtain rfl : k = l := by omega
      have hnk : ¬ (k : Int) < (k : Int) := by omega
      have P7 := hideit (P6.out.but BK.out (Ne.symm bk.out.1) (Ne.symm bk.out.2.1) (Ne.symm bk.out.2.2))
      have R7 := hideit (R6.out.but BK.out bk2.out)
      have V7 := hideit (hvb.out wr BK.out)
      have hE7 := hideit (Ext.but hE6.out BK.out hwk.out)
      have D7 := hideit (hDw.out.ext hE7.out)
      clear hvb P6 R6 V6 D6 hE6 BK RK hlt hk
      go_upto_region 12 with (fail)
      refine wp_region_lit ?_
      refine wpList_run rfl (.pointer (some ⟨q, 0, none⟩)) (by simp [go_sem]) ?_
      simp only [Act.put, List.setIfInBounds_toArray, List.set_cons_zero, List.set_cons_succ]
      refine wpList_run rfl (.int .u64 (u.toNat : Int)) (by simp [go_sem]) ?_
      simp only [Act.put, List.setIfInBounds_toArray, List.set_cons_zero, List.set_cons_succ]
      refine wpList_run rfl (.slice od m cd) (by simp [go_sem]) ?_
      simp only [Act.put, List.setIfInBounds_toArray, List.set_cons_zero, List.set_cons_succ]
      refine wpList_call rfl (by simp [go_sem]; exact ⟨rfl, rfl⟩) ?_
      refine (kx.out _ wr P7.out V7.out).mono ?_
      rintro e w8 ⟨x1, rfl, hB, hX⟩
      refine ⟨_, rfl, ?_⟩
      simp only [Act.put, List.setIfInBounds_toArray, List.set_cons_zero, List.set_cons_succ]
      have X8 := hideit hB
      clear hB
      have P8 := hideit (P7.out.ext hX)
      have R8 := hideit (R7.out.ext hX)
      have V8 := hideit (V7.out.ext hX)
      have D8 := hideit (D7.out.ext hX)
      have hE8 := hideit (Ext.trans hE7.out hX)
      clear hE7 P7 R7 V7 D7
      clear hX
      go_upto_region 13 with (fail)
      refine wp_region_lit ?_
      refine wpList_run rfl (.pointer (some ⟨q2, 0, none⟩)) (by simp [go_sem]) ?_
      simp only [Act.put, List.setIfInBounds_toArray, List.set_cons_zero, List.set_cons_succ]
      refine wpList_run rfl (.int .u64 (u.toNat : Int)) (by simp [go_sem]) ?_
      simp only [Act.put, List.setIfInBounds_toArray, List.set_cons_zero, List.set_cons_succ]
      refine wpList_run rfl (.slice ob m cb) (by simp [go_sem]) ?_
      simp only [Act.put, List.setIfInBounds_toArray, List.set_cons_zero, List.set_cons_succ]
      refine wpList_call rfl (by simp [go_sem]; exact ⟨rfl, rfl⟩) ?_
      refine (rx.out _ w8 R8.out D8.out).mono ?_
      rintro e w9 ⟨x2, rfl, hB, hX⟩
      refine ⟨_, rfl, ?_⟩
      simp only [Act.put, List.setIfInBounds_toArray, List.set_cons_zero, List.set_cons_succ]
      have Z9 := hideit hB
      clear hB
      have P9 := hideit (P8.out.ext hX)
      have R9 := hideit (R8.out.ext hX)
      have V9 := hideit (V8.out.ext hX)
      have D9 := hideit (D8.out.ext hX)
      have X9 := hideit (X8.out.ext hX)
      have hE9 := hideit (Ext.trans hE8.out hX)
      clear hE8 P8 R8 V8 D8 X8
      clear hX
      go_upto_region 14 with (fail)
      refine wp_region_lit ?_
      refine wpList_run rfl (.pointer (some ⟨q, 0, none⟩)) (by simp [go_sem]) ?_
      simp only [Act.put, List.setIfInBounds_toArray, List.set_cons_zero, List.set_cons_succ]
      refine wpList_run rfl (.int .u64 (u.toNat : Int)) (by simp [go_sem]) ?_
      simp only [Act.put, List.setIfInBounds_toArray, List.set_cons_zero, List.set_cons_succ]
      refine wpList_run rfl (.slice od m cd) (by simp [go_sem]) ?_
      simp only [Act.put, List.setIfInBounds_toArray, List.set_cons_zero, List.set_cons_succ]
      refine wpList_call rfl (by simp [go_sem]; exact ⟨rfl, rfl⟩) ?_
      refine (ky.out _ w9 P9.out V9.out).mono ?_
      rintro e w10 ⟨x3, rfl, hB, hX⟩
      refine ⟨_, rfl, ?_⟩
      simp only [Act.put, List.setIfInBounds_toArray, List.set_cons_zero, List.set_cons_succ]
      have S10 := hideit hB
      clear hB
      have P10 := hideit (P9.out.ext hX)
      have R10 := hideit (R9.out.ext hX)
      have V10 := hideit (V9.out.ext hX)
      have D10 := hideit (D9.out.ext hX)
      have X10 := hideit (X9.out.ext hX)
      have Z10 := hideit (Z9.out.ext hX)
      have hE10 := hideit (Ext.trans hE9.out hX)
      clear hE9 P9 R9 V9 D9 X9 Z9
      clear hX
      go_upto_region 15 with (fail)
      refine wp_region_lit ?_
      refine wpList_run rfl (.pointer (some ⟨q2, 0, none⟩)) (by simp [go_sem]) ?_
      simp only [Act.put, List.setIfInBounds_toArray, List.set_cons_zero, List.set_cons_succ]
      refine wpList_run rfl (.int .u64 (u.toNat : Int)) (by simp [go_sem]) ?_
      simp only [Act.put, List.setIfInBounds_toArray, List.set_cons_zero, List.set_cons_succ]
      refine wpList_run rfl (.slice ob m cb) (by simp [go_sem]) ?_
      simp only [Act.put, List.setIfInBounds_toArray, List.set_cons_zero, List.set_cons_succ]
      refine wpList_call rfl (by simp [go_sem]; exact ⟨rfl, rfl⟩) ?_
      refine (ry.out _ w10 R10.out D10.out).mono ?_
      rintro e w11 ⟨x4, rfl, hB, hX⟩
      refine ⟨_, rfl, ?_⟩
      simp only [Act.put, List.setIfInBounds_toArray, List.set_cons_zero, List.set_cons_succ]
      have T11 := hideit hB
      clear hB
      have P11 := hideit (P10.out.ext hX)
      have R11 := hideit (R10.out.ext hX)
      have V11 := hideit (V10.out.ext hX)
      have D11 := hideit (D10.out.ext hX)
      have X11 := hideit (X10.out.ext hX)
      have Z11 := hideit (Z10.out.ext hX)
      have S11 := hideit (S10.out.ext hX)
      have hE11 := hideit (Ext.trans hE10.out hX)
      clear hE10 P10 R10 V10 D10 X10 Z10 S10
      clear hX
      obtain ⟨o1, p1, rfl⟩ := bv_form X11.out
      obtain ⟨o2, p2, rfl⟩ := bv_form Z11.out
      obtain ⟨o3, p3, rfl⟩ := bv_form S11.out
      obtain ⟨o4, p4, rfl⟩ := bv_form T11.out
      have h1 := convV _ n1 G1 w11 X11.out
      have h2 := convV _ n1 G1 w11 Z11.out
      have h3 := convV _ n2 G2 w11 S11.out
      have h4 := convV _ n2 G2 w11 T11.out
      have h5 := convV _ m Y w11 V11.out
      have h6 := convV _ m Y w11 D11.out
      generalize bstr n1 G1 = s1 at *
      generalize bstr n2 G2 = s2 at *
      generalize bstr m Y = s3 at *
      clear P11 R11 V11 D11 X11 Z11 S11 T11 kx rx ky ry
      go_upto_region 16 with (fail)
      refine wp_region_lit ?_
      refine wpList_run rfl (.slice o1 n1 p1) (by simp [go_sem]) ?_
      simp only [Act.put, List.setIfInBounds_toArray, List.set_cons_zero, List.set_cons_succ]
      refine wpList_run rfl (.string s1) (by simp [go_sem, h1]) ?_
      simp only [Act.put, List.setIfInBounds_toArray, List.set_cons_zero, List.set_cons_succ]
      refine wpList_run rfl (.slice o2 n1 p2) (by simp [go_sem]) ?_
      simp only [Act.put, List.setIfInBounds_toArray, List.set_cons_zero, List.set_cons_succ]
      refine wpList_run rfl (.string s1) (by simp [go_sem, h2]) ?_
      simp only [Act.put, List.setIfInBounds_toArray, List.set_cons_zero, List.set_cons_succ]
      refine wpList_run rfl (.bool true) (by simp [go_sem]) ?_
      simp only [Act.put, List.setIfInBounds_toArray, List.set_cons_zero, List.set_cons_succ]
      refine wpList_run rfl (.bool true) (by simp [go_sem]) ?_
      simp only [Act.put, List.setIfInBounds_toArray, List.set_cons_zero, List.set_cons_succ]
      refine wpList_runW rfl (.int .i64 E1) (by simp [go_sem]) ?_
      simp only [Act.put, List.setIfInBounds_toArray, List.set_cons_zero, List.set_cons_succ]
      refine wpList_runW rfl (.int .i64 E1) (by simp [go_sem]) ?_
      simp only [Act.put, List.setIfInBounds_toArray, List.set_cons_zero, List.set_cons_succ]
      refine wpList_runW rfl (.bool true) (by simp [go_sem]) ?_
      simp only [Act.put, List.setIfInBounds_toArray, List.set_cons_zero, List.set_cons_succ]
      refine wpList_run rfl (.bool true) (by simp [go_sem]) ?_
      simp only [Act.put, List.setIfInBounds_toArray, List.set_cons_zero, List.set_cons_succ]
      refine wpList_run rfl (.bool true) (by simp [go_sem]) ?_
      simp only [Act.put, List.setIfInBounds_toArray, List.set_cons_zero, List.set_cons_succ]
      refine wpList_runW rfl (.slice o3 n2 p3) (by simp [go_sem]) ?_
      simp only [Act.put, List.setIfInBounds_toArray, List.set_cons_zero, List.set_cons_succ]
      refine wpList_runW rfl (.string s2) (by simp [go_sem, h3]) ?_
      simp only [Act.put, List.setIfInBounds_toArray, List.set_cons_zero, List.set_cons_succ]
      refine wpList_runW rfl (.slice o4 n2 p4) (by simp [go_sem]) ?_
      simp only [Act.put, List.setIfInBounds_toArray, List.set_cons_zero, List.set_cons_succ]
      refine wpList_runW rfl (.string s2) (by simp [go_sem, h4]) ?_
      simp only [Act.put, List.setIfInBounds_toArray, List.set_cons_zero, List.set_cons_succ]
      refine wpList_runW rfl (.bool true) (by simp [go_sem]) ?_
      simp only [Act.put, List.setIfInBounds_toArray, List.set_cons_zero, List.set_cons_succ]
      refine wpList_run rfl (.bool true) (by simp [go_sem]) ?_
      simp only [Act.put, List.setIfInBounds_toArray, List.set_cons_zero, List.set_cons_succ]
      refine wpList_run rfl (.bool true) (by simp [go_sem]) ?_
      simp only [Act.put, List.setIfInBounds_toArray, List.set_cons_zero, List.set_cons_succ]
      refine wpList_runW rfl (.int .i64 E2) (by simp [go_sem]) ?_
      simp only [Act.put, List.setIfInBounds_toArray, List.set_cons_zero, List.set_cons_succ]
      refine wpList_runW rfl (.int .i64 E2) (by simp [go_sem]) ?_
      simp only [Act.put, List.setIfInBounds_toArray, List.set_cons_zero, List.set_cons_succ]
      refine wpList_runW rfl (.bool true) (by simp [go_sem]) ?_
      simp only [Act.put, List.setIfInBounds_toArray, List.set_cons_zero, List.set_cons_succ]
      refine wpList_run rfl (.bool true) (by simp [go_sem]) ?_
      simp only [Act.put, List.setIfInBounds_toArray, List.set_cons_zero, List.set_cons_succ]
      refine wpList_run rfl (.bool true) (by simp [go_sem]) ?_
      simp only [Act.put, List.setIfInBounds_toArray, List.set_cons_zero, List.set_cons_succ]
      refine wpList_runW rfl (.slice od m cd) (by simp [go_sem]) ?_
      simp only [Act.put, List.setIfInBounds_toArray, List.set_cons_zero, List.set_cons_succ]
      refine wpList_runW rfl (.string s3) (by simp [go_sem, h5]) ?_
      simp only [Act.put, List.setIfInBounds_toArray, List.set_cons_zero, List.set_cons_succ]
      refine wpList_runW rfl (.slice ob m cb) (by simp [go_sem]) ?_
      simp only [Act.put, List.setIfInBounds_toArray, List.set_cons_zero, List.set_cons_succ]
      refine wpList_runW rfl (.string s3) (by simp [go_sem, h6]) ?_
      simp only [Act.put, List.setIfInBounds_toArray, List.set_cons_zero, List.set_cons_succ]
      refine wpList_runW rfl (.bool true) (by simp [go_sem]) ?_
      simp only [Act.put, List.setIfInBounds_toArray, List.set_cons_zero, List.set_cons_succ]
      refine wpList_run rfl (.bool true) (by simp [go_sem]) ?_
      simp only [Act.put, List.setIfInBounds_toArray, List.set_cons_zero, List.set_cons_succ]
      clear h1 h2 h3 h4 h5 h6
      go_wp2
      go_ret
      exact ⟨rfl, hE11.out⟩
theorem units_walk (v0 v2 : Value) (l m : Nat) (D Y : Nat → BitVec 8) (u : BitVec 64) (w : World) (hl : l ≤ 140737488351232) (hm : m ≤ 140737488351232) (hK : BV v0 l D w) (hD : BV v2 m Y w) :
    Calls Try.prog 5 #[v0, .int .u64 (u.toNat : Int), v2] w fun e w' => e = .returned (.bool true) ∧ Below w.heap.size w w' := by
  by_cases h32 : l = 32
  · subst h32
    refine units_good v0 v2 32 m 10 (schedK 4 D) (schedK 4 fun j => D (16 + j)) D Y (by omega) (by omega) u w (by omega) hm hK hD (fun v X hv => ?_) (fun v X hv => ?_)
    · rcases hv with ⟨_, h⟩ | ⟨a, cap, rfl, hc, hk⟩
      · omega
      · exact xnew4_any a cap D X hk hc
    · rcases hv with ⟨_, h⟩ | ⟨a, cap, rfl, hc, hk⟩
      · omega
      · exact rxnew4_any a cap D X hk hc
  · by_cases h64 : l = 64
    · subst h64
      refine units_good v0 v2 64 m 14 (schedK 8 D) (schedK 8 fun j => D (32 + j)) D Y (by omega) (by omega) u w (by omega) hm hK hD (fun v X hv => ?_) (fun v X hv => ?_)
      · rcases hv with ⟨_, h⟩ | ⟨a, cap, rfl, hc, hk⟩
        · omega
        · exact xnew8_any a cap D X hk hc
      · rcases hv with ⟨_, h⟩ | ⟨a, cap, rfl, hc, hk⟩
        · omega
        · exact rxnew8_any a cap D X hk hc
    · refine units_bad v0 v2 l m D Y u w hl hm hK hD (fun v X hv => ?_) (fun v X hv => ?_)
      · rcases hv with ⟨rfl, rfl⟩ | ⟨a, cap, rfl, hc, hk⟩
        · exact xnew_bad none 0 0 h32 h64 (Nat.le_refl _) hl (fun _ => rfl) D X (fun b h => by cases h)
        · exact xnew_bad (some a) l cap h32 h64 hc hl (fun h => by cases h) D X (fun b h => by cases h; exact hk)
      · rcases hv with ⟨rfl, rfl⟩ | ⟨a, cap, rfl, hc, hk⟩
        · exact (rxnew_bad none 0 0 h32 h64 X).mono fun e w' hh => ⟨hh.1, by rw [hh.2]; exact Ext.refl _⟩
        · exact (rxnew_bad (some a) l cap h32 h64 X).mono fun e w' hh => ⟨hh.1, by rw [hh.2]; exact Ext.refl _⟩
end Go.Proofs.Ytkoodgfadedeoaa
