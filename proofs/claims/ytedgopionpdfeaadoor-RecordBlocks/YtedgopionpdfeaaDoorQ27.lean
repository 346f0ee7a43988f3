/-
  A transaction's blocks. A transaction's blocks: the walk.
-/
import Derived.Test.YtedgopionpdfeaaDoorQ26
import Derived.Maps.AppendAt
namespace Go.Proofs.YtedgopionpdfeaaDoor
open Go.RowKit Go.BigFrame
theorem elem24 : ElemB Tryd.prog 24 34 24 := elem_b Tryd.underlying24 (by kernel_rfl) (by kernel_rfl) (by kernel_rfl)
def up1 {α : Type} (f : Nat → α) (n : Nat) (a : α) : Nat → α := fun i => if i = n then a else f i
theorem up1_same {α : Type} (f : Nat → α) (n : Nat) (a : α) : up1 f n a n = a := if_pos rfl
theorem up1_other {α : Type} (f : Nat → α) {n i : Nat} (h : i ≠ n) (a : α) : up1 f n a i = f i := if_neg h
/-- a list of blocks that this call made -/
structure BLs (B : Nat) (v : Value) (m : Nat) (us : Nat → Value) (fs : Nat → Nat → BitVec 8) (X : World) : Prop where
  own : OwnB B 34 v m us X
  byt : ∀ i, i < m → ∃ z cp, us i = .slice (some ⟨z, 0, none⟩) 512 cp ∧ 512 ≤ cp ∧ LieAt ⟨z, 0, none⟩ 512 (yv (fs i)) X ∧ v.ownBlock ≠ some z
section
variable {B : Nat} {v : Value} {m : Nat} {us : Nat → Value} {fs fs' : Nat → Nat → BitVec 8} {X Y : World}
theorem BLs.ext (h : BLs B v m us fs X) (k : Ext X Y) : BLs B v m us fs Y := ⟨h.own.ext k, fun i hi => by
  obtain ⟨z, cp, h1, h2, h3, h4⟩ := h.byt i hi
  exact ⟨z, cp, h1, h2, h3.carry k, h4⟩⟩
theorem BLs.congr (h : BLs B v m us fs X) (e : ∀ i, i < m → fs i = fs' i) : BLs B v m us fs' X := ⟨h.own, fun i hi => by rw [← e i hi]; exact h.byt i hi⟩
theorem BLs.parts (h : BLs B v m us fs X) : Parts v m us (fun _ => 512) fs X := by
  refine ⟨?_, fun i hi => ?_⟩
  · rcases h.own.2 with ⟨h1, h2⟩ | ⟨g, cap, cur, h1, _, hg, hc, _⟩
    · exact .inl ⟨h1, h2⟩
    · refine .inr ⟨⟨g, 0, none⟩, cap, h1, hc, ?_⟩
      rcases Nat.eq_zero_or_pos m with h0 | h0
      · subst h0
        exact ⟨fun j hj => absurd hj (Nat.not_lt_zero _), (Array.getElem?_eq_some_iff.1 hg).1⟩
      · obtain ⟨g', cap', e, _, _, _, hR⟩ := h.own.lies h0
        rw [h1] at e
        have e2 : g = g' := congrArg Addr.block (Option.some.inj (Value.slice.inj e).1)
        subst e2
        exact hR.lie m (Nat.le_refl _)
  · obtain ⟨z, cp, h1, h2, h3, _⟩ := h.byt i hi
    exact .inr ⟨_, cp, h1, h2, h3⟩
theorem BLs.form (h : BLs B v m us fs X) : ∃ o cap, v = .slice o m cap := by
  rcases h.own.2 with ⟨h1, h2⟩ | ⟨g, cap, cur, h1, _⟩
  · exact ⟨none, 0, by rw [h1, h2]⟩
  · exact ⟨_, cap, h1⟩
/-- one block more -/
theorem BLs.app (h : BLs B v m us fs X) (hB : B ≤ X.heap.size) (hm : m ≤ 1000000) {z cp : Nat} {f : Nat → BitVec 8} (hcp : 512 ≤ cp) (hz : LieAt ⟨z, 0, none⟩ 512 (yv f) X) (hne : v.ownBlock ≠ some z) (ty : TypeId) :
    ∃ v' Y, (Builtin.append_ #[24, 24] ty #[v, .slice (some ⟨X.heap.size, 0, none⟩) 1 1]).run Tryd.prog (X.alloc (.cells #[.slice (some ⟨z, 0, none⟩) 512 cp] 34)) = .ok v' Y ∧ BLs B v' (m + 1) (up1 us m (.slice (some ⟨z, 0, none⟩) 512 cp)) (up1 fs m f) Y ∧ Below B X Y := by
  have hX1 : Ext X (X.alloc (.cells #[.slice (some ⟨z, 0, none⟩) 512 cp] 34)) := (Below.refl _ _).alloc (Nat.le_refl _) _
  have hr := row_new1 X (.slice (some ⟨z, 0, none⟩) 512 cp) 34
  have h1 := h.ext hX1
  have hz1 := hz.carry hX1
  have hs1 : (X.alloc (.cells #[.slice (some ⟨z, 0, none⟩) 512 cp] 34)).heap.size = X.heap.size + 1 := by simp
  have hzl := hz.2
  have hzo : ∀ i, i < m → ∃ z', (us i).ownBlock = some z' ∧ z' < X.heap.size := fun i hi => by
    obtain ⟨z', cp', e, _, e3, _⟩ := h.byt i hi
    exact ⟨z', by rw [e]; rfl, e3.2⟩
  generalize X.alloc (.cells #[.slice (some ⟨z, 0, none⟩) 512 cp] 34) = X1 at *
  obtain ⟨i, zz, e1, e2, e3, e4, e5⟩ := elem24.info
  obtain ⟨v', Y, a1, a2, a3, _, a5⟩ := run_append_own_at (P := Tryd.prog) X1 B 24 ty 34 i zz 1 24 elem24.slice e1 e2 e3 e4 e5 (by decide) v m (row m us) h1.own ⟨X.heap.size, 0, none⟩ 1 1 [.slice (some ⟨z, 0, none⟩) 512 cp] rfl (fun j x hj => by
    cases j with
    | zero => simp at hj; subst hj; exact hr.1 0 (by decide)
    | succ j => simp at hj) (fun x hx => by simp at hx; subst hx; rfl) (by unfold maxLen; omega) (by omega) (by omega)
  have hkeep : ∀ {z' : Nat} {g : Nat → BitVec 8}, LieAt ⟨z', 0, none⟩ 512 (yv g) X1 → v.ownBlock ≠ some z' → LieAt ⟨z', 0, none⟩ 512 (yv g) Y := fun {z' g} hl hn => ⟨fun j hj => (World.cell?_of_block (a := (⟨z', 0, none⟩ : Addr).add j) (by rw [add_block]; exact a3.block z' hl.2 (fun e => hn e.symm))).trans (hl.1 j hj), Nat.lt_of_lt_of_le hl.2 a3.size⟩
  have hown : ∀ z', z' < X.heap.size → v.ownBlock ≠ some z' → v'.ownBlock ≠ some z' := fun z' hz' hn e => by
    rcases a5 with q | q
    · exact hn (q ▸ e)
    · rw [q] at e
      injection e with e
      omega
  refine ⟨v', Y, a1, ⟨?_, fun j hj => ?_⟩, Below.trans (Below.mono hX1 hB) (below_grown (by omega) a3 fun q hq => (h1.own.lt q hq).1)⟩
  · unfold OwnB
    rw [show row (m + 1) (up1 us m (.slice (some ⟨z, 0, none⟩) 512 cp)) = row m us ++ [.slice (some ⟨z, 0, none⟩) 512 cp] from ?_]
    · exact a2
    · rw [← row_append m 1 us (fun _ => .slice (some ⟨z, 0, none⟩) 512 cp) _ (fun j hj => by rw [up1_other _ (by omega)]) (fun j hj => by rw [show m + j = m by omega, up1_same])]
      rfl
  · by_cases e : j = m
    · subst e
      rw [up1_same, up1_same]
      exact ⟨z, cp, rfl, hcp, hkeep hz1 hne, hown z hzl hne⟩
    · rw [up1_other _ e, up1_other _ e]
      obtain ⟨z', cp', q1, q2, q3, q4⟩ := h1.byt j (by omega)
      obtain ⟨z2, p1, p2⟩ := hzo j (by omega)
      rw [q1] at p1
      have p3 : z' = z2 := Option.some.inj p1
      exact ⟨z', cp', q1, q2, hkeep q3 q4, hown z' (by omega) q4⟩
end
/-- the blocks of a transaction ahead of its seal -/
def bkF (x t : BitVec 64) (n : Nat) (bs : Nat → Int) (fs : Nat → Nat → BitVec 8) (i : Nat) : Nat → BitVec 8 := if i = 0 then planF x t n bs else stF 512 (fs (i - 1))
def trF (x t : BitVec 64) (n : Nat) (bs : Nat → Int) (fs : Nat → Nat → BitVec 8) (i : Nat) : Nat → BitVec 8 := if i = n + 1 then sealF x (allF (fun _ => 512) (bkF x t n bs fs) (n + 1)) (sumL (fun _ => 512) (n + 1)) else bkF x t n bs fs i
theorem sum512 : ∀ n, sumL (fun _ => 512) n = 512 * n
  | 0 => rfl
  | n + 1 => by rw [sumL_succ, sum512 n]; omega
theorem joinF_congr (ls : Nat → Nat) (b b' : Nat → Nat → BitVec 8) : ∀ n, (∀ i, i < n → b i = b' i) → allF ls b n = allF ls b' n
  | 0, _ => rfl
  | n + 1, h => by rw [allF_succ, allF_succ, joinF_congr ls b b' n (fun i hi => h i (by omega)), h n (by omega)]
def okT (x : BitVec 64) (n : Nat) (bs : Nat → Int) (ls : Nat → Nat) (fs : Nat → Nat → BitVec 8) : Prop := mayP x (tmK ls fs n) n bs ∧ ¬ oddL n ls
set_option maxRecDepth 20000 in
set_option maxHeartbeats 4000000 in
theorem blocks_no (x : BitVec 64) (v0 : Value) (n : Nat) (bs : Nat → Int) (us : Nat → Value) (ls : Nat → Nat) (fs : Nat → Nat → BitVec 8) (w : World) (hL : RLs v0 n bs us ls fs w) (hbi : ∀ i, i < n → okI (bs i)) (hn : n ≤ 4398046511104) (hno : ¬ okT x n bs ls fs) : Calls Tryd.prog 8 #[.int .u64 (x.toNat : Int), v0] w fun e w' => e = .returned (.tuple #[.slice none 0 0, .int .i64 1]) ∧ Ext w w' := by
  obtain ⟨o, cap, rfl⟩ := hL.form
  have kp := hideit (planOf_any x (.slice o n cap) n bs us ls fs w hL hn)
  replace hL := hideit hL
  go_enter Tryd.func8, Tryd.ntmps8
  go_upto_region 1 with (fail)
  refine wp_region_lit ?_
  refine wpList_run rfl (.int .u64 (x.toNat : Int)) (by simp [go_sem]) ?_
  simp only [Act.put, List.setIfInBounds_toArray, List.set_cons_zero, List.set_cons_succ]
  refine wpList_run rfl (.slice o n cap) (by simp [go_sem]) ?_
  simp only [Act.put, List.setIfInBounds_toArray, List.set_cons_zero, List.set_cons_succ]
  refine wpList_call rfl (by simp [go_sem]) ((kp.out).mono ?_)
  rintro e w1 ⟨pv, rfl, hO1, hX1⟩
  refine ⟨_, rfl, ?_⟩
  simp only [Act.put, List.setIfInBounds_toArray, List.set_cons_zero, List.set_cons_succ]
  have hT1 : RowAt w1.heap.size 3 (plV 0#64 0#64 (.slice none 0 0)) (w1.alloc (.cells #[.int .u64 0, .int .u64 0, .slice none 0 0] 47)) := RowAt.newOf w1 3 _ 47 _ fun j hj => by rcases (by omega : j = 0 ∨ j = 1 ∨ j = 2) with rfl | rfl | rfl <;> rfl
  obtain ⟨t, ht⟩ : ∃ t, t = tmK ls fs n := ⟨_, rfl⟩
  rw [← ht]
  replace ht := hideit ht
  have hT2 := hT1.cells (g' := plV x t pv)
  have hX2 : Ext w1 ((w1.alloc (.cells #[.int .u64 0, .int .u64 0, .slice none 0 0] 47)).setCells w1.heap.size 0 (row 3 (plV x t pv))) := below_setCells w1.heap.size (Nat.le_refl _) _ 0 _ ((Below.refl _ _).alloc (Nat.le_refl _) _)
  have hv1 : pv.oneCell' = true := by
    rcases hO1.2 with ⟨e, _⟩ | ⟨g, cc, cur, e, _⟩ <;> rw [e] <;> rfl
  refine wpList_to rfl (.pointer (some ⟨w1.heap.size, 0, none⟩)) (w1.alloc (.cells #[.int .u64 0, .int .u64 0, .slice none 0 0] 47)) (alloc47 rfl) ?_
  simp only [Act.put, List.setIfInBounds_toArray, List.set_cons_zero, List.set_cons_succ]
  refine wpList_store_mid rfl 47 (.tmp 6) (.tmp 12) rfl w1.heap.size 0 (row 3 (plV x t pv)).toArray rfl rfl (by rw [row_size]; exact hT1.there) (by rw [row_size]; exact info47) (row_one (plV_one hv1)) ?_
  rw [show (row 3 (plV x t pv)).toArray.toList = row 3 (plV x t pv) from rfl]
  have hO2 := (hO1.ext hX2).il hbi
  have hE2 := hideit (Ext.trans hX1 hX2)
  generalize (w1.alloc (.cells #[.int .u64 0, .int .u64 0, .slice none 0 0] 47)).setCells w1.heap.size 0 (row 3 (plV x t pv)) = w2 at *
  generalize w1.heap.size = p6 at *
  replace hT2 := hideit hT2
  clear kp hT1 hX2 hX1 hO1 hv1
  simp only [Act.put]
  by_cases hmay : mayP x t n bs
  · have km := may_any x t pv n bs w2 hO2 hn true (by simp [hmay])
    rw [plA_row] at km
    replace km := hideit km
    have hodd : oddL n ls := Classical.byContradiction fun h => hno ⟨by rw [← ht.out]; exact hmay, h⟩
    go_upto_region 2 with (fail)
    refine wp_region_lit ?_
    refine wpList_run rfl (.agg (row 3 (plV x t pv)).toArray) (exec_loadR 47 (.tmp 6) rfl p6 0 3 _ rfl hT2.out.range Tryd.underlying47 rfl info47) ?_
    simp only [Act.put, List.setIfInBounds_toArray, List.set_cons_zero, List.set_cons_succ]
    refine wpList_call rfl (by simp [go_sem]) ((km.out).mono ?_)
    rintro e w3 ⟨rfl, hX3⟩
    refine ⟨_, rfl, ?_⟩
    simp only [Act.put, List.setIfInBounds_toArray, List.set_cons_zero, List.set_cons_succ]
    have hE3 := hideit (Ext.trans hE2.out hX3)
    have kc := hideit (contains_odd (.slice o n cap) n bs us ls fs w3 (hL.out.ext hE3.out) hn true (by simp [hodd]))
    refine wpList_run rfl (.bool false) (by simp [go_sem]) ?_
    simp only [Act.put, List.setIfInBounds_toArray, List.set_cons_zero, List.set_cons_succ]
    refine wpList_run rfl (.bool false) (by simp [go_sem]) ?_
    simp only [Act.put, List.setIfInBounds_toArray, List.set_cons_zero, List.set_cons_succ]
    refine wpList_runW rfl (.slice o n cap) (by simp [go_sem]) ?_
    simp only [Act.put, List.setIfInBounds_toArray, List.set_cons_zero, List.set_cons_succ]
    refine wpList_callW rfl (by simp [go_sem]) ((kc.out).mono ?_)
    rintro e w4 ⟨rfl, hX4⟩
    refine ⟨_, rfl, ?_⟩
    simp only [Act.put, List.setIfInBounds_toArray, List.set_cons_zero, List.set_cons_succ]
    refine wpList_run rfl (.bool true) (by simp [go_sem]) ?_
    simp only [Act.put, List.setIfInBounds_toArray, List.set_cons_zero, List.set_cons_succ]
    have hE4 := hideit (Ext.trans hE3.out hX4)
    clear km kc hX3 hX4 hE3 hE2
    go_wp2
    go_ret2
    exact ⟨rfl, hE4.out⟩
  · have km := may_any x t pv n bs w2 hO2 hn false (by simp [hmay])
    rw [plA_row] at km
    replace km := hideit km
    go_upto_region 2 with (fail)
    refine wp_region_lit ?_
    refine wpList_run rfl (.agg (row 3 (plV x t pv)).toArray) (exec_loadR 47 (.tmp 6) rfl p6 0 3 _ rfl hT2.out.range Tryd.underlying47 rfl info47) ?_
    simp only [Act.put, List.setIfInBounds_toArray, List.set_cons_zero, List.set_cons_succ]
    refine wpList_call rfl (by simp [go_sem]) ((km.out).mono ?_)
    rintro e w3 ⟨rfl, hX3⟩
    refine ⟨_, rfl, ?_⟩
    simp only [Act.put, List.setIfInBounds_toArray, List.set_cons_zero, List.set_cons_succ]
    refine wpList_run rfl (.bool true) (by simp [go_sem]) ?_
    simp only [Act.put, List.setIfInBounds_toArray, List.set_cons_zero, List.set_cons_succ]
    refine wpList_run rfl (.bool true) (by simp [go_sem]) ?_
    simp only [Act.put, List.setIfInBounds_toArray, List.set_cons_zero, List.set_cons_succ]
    refine wpList_skip rfl ?_
    simp only [Act.put, List.setIfInBounds_toArray, List.set_cons_zero, List.set_cons_succ]
    refine wpList_skip rfl ?_
    simp only [Act.put, List.setIfInBounds_toArray, List.set_cons_zero, List.set_cons_succ]
    refine wpList_run rfl (.bool true) (by simp [go_sem]) ?_
    simp only [Act.put, List.setIfInBounds_toArray, List.set_cons_zero, List.set_cons_succ]
    have hE3 := hideit (Ext.trans hE2.out hX3)
    clear km hX3 hE2
    go_wp2
    go_ret2
    exact ⟨rfl, hE3.out⟩
end Go.Proofs.YtedgopionpdfeaaDoor
namespace Go.Proofs.YtedgopionpdfeaaDoor
open Go.RowKit Go.BigFrame
theorem exec_app {P : Program} {o : Oper} {a : Act} {w w' : World} {t : TypeId} {v u v' : Value} (sl x : Operand) (ho : o.op = .call { callee := .builtin .append, args := #[sl, x], argTypes := #[t, t] }) (hs : a.eval sl = v) (hx : a.eval x = u)
    (hr : (Builtin.append_ #[t, t] o.type #[v, u]).run P w = .ok v' w') : (execOp a.eval o).run P w = .ok (.value v') w' := by
  simp [execOp, ho, resolve, invoke, builtin, hs, hx, hr, Result.andThen]
theorem own_one (w : World) (B : Nat) (u : Value) (hB : B ≤ w.heap.size) : OwnB B 34 (.slice (some ⟨w.heap.size, 0, none⟩) 1 1) 1 (fun _ => u) (w.alloc (.cells #[u] 34)) :=
  ⟨by rw [row_length, Nat.mul_one], .inr ⟨w.heap.size, 1, #[u], rfl, hB, by
    show (w.heap.push (.cells #[u] 34))[w.heap.size]? = _
    simp, Nat.le_refl _, by unfold maxLen; decide, rfl, rfl⟩⟩
theorem bls_one {w : World} {B z : Nat} {f : Nat → Nat → BitVec 8} (hB : B ≤ w.heap.size) (h : RowAt z 512 (yv (f 0)) w) : BLs B (.slice (some ⟨w.heap.size, 0, none⟩) 1 1) 1 (fun _ => .slice (some ⟨z, 0, none⟩) 512 512) f (w.alloc (.cells #[.slice (some ⟨z, 0, none⟩) 512 512] 34)) := by
  have hX : Ext w (w.alloc (.cells #[.slice (some ⟨z, 0, none⟩) 512 512] 34)) := (Below.refl _ _).alloc (Nat.le_refl _) _
  refine ⟨own_one w B _ hB, fun i hi => ?_⟩
  obtain rfl : i = 0 := by omega
  refine ⟨z, 512, rfl, Nat.le_refl _, (h.lie 512 (Nat.le_refl _)).carry hX, fun e => ?_⟩
  have := h.2.2
  have e : w.heap.size = z := Option.some.inj e
  omega
set_option maxRecDepth 20000 in
set_option maxHeartbeats 4000000 in
theorem blocks_ok (x : BitVec 64) (v0 : Value) (n : Nat) (bs : Nat → Int) (us : Nat → Value) (ls : Nat → Nat) (fs : Nat → Nat → BitVec 8) (w : World) (hL : RLs v0 n bs us ls fs w) (hbi : ∀ i, i < n → okI (bs i)) (hn : n ≤ 4398046511104) (hT : TabC w) (hyes : okT x n bs ls fs) : Calls Tryd.prog 8 #[.int .u64 (x.toNat : Int), v0] w fun e w' => ∃ v us', e = .returned (.tuple #[v, .int .i64 0]) ∧ BLs w.heap.size v (n + 2) us' (trF x (tmK ls fs n) n bs fs) w' ∧ Ext w w' := by
  obtain ⟨⟨_, _, hn64, _, hrb⟩, _⟩ := id hyes
  have hlen : Hid (∀ i, i < n → ls i = 512) := fun i hi => Classical.byContradiction fun h => hyes.2 ⟨i, hi, h⟩
  have hrb' : Hid (∀ j, j < n → okB (bs j)) := fun j hj => (hrb j hj).1
  replace hT := hideit hT
  clear hrb
  obtain ⟨o, cap, rfl⟩ := hL.form
  have kp := hideit (planOf_any x (.slice o n cap) n bs us ls fs w hL hn)
  replace hL := hideit hL
  go_enter Tryd.func8, Tryd.ntmps8
  go_upto_region 1 with (fail)
  refine wp_region_lit ?_
  refine wpList_run rfl (.int .u64 (x.toNat : Int)) (by simp [go_sem]) ?_
  simp only [Act.put, List.setIfInBounds_toArray, List.set_cons_zero, List.set_cons_succ]
  refine wpList_run rfl (.slice o n cap) (by simp [go_sem]) ?_
  simp only [Act.put, List.setIfInBounds_toArray, List.set_cons_zero, List.set_cons_succ]
  refine wpList_call rfl (by simp [go_sem]) ((kp.out).mono ?_)
  rintro e w1 ⟨pv, rfl, hO1, hX1⟩
  refine ⟨_, rfl, ?_⟩
  simp only [Act.put, List.setIfInBounds_toArray, List.set_cons_zero, List.set_cons_succ]
  have hT1 : RowAt w1.heap.size 3 (plV 0#64 0#64 (.slice none 0 0)) (w1.alloc (.cells #[.int .u64 0, .int .u64 0, .slice none 0 0] 47)) := RowAt.newOf w1 3 _ 47 _ fun j hj => by rcases (by omega : j = 0 ∨ j = 1 ∨ j = 2) with rfl | rfl | rfl <;> rfl
  obtain ⟨t, ht⟩ : ∃ t, t = tmK ls fs n := ⟨_, rfl⟩
  rw [← ht]
  replace ht := hideit ht
  have hT2 := hT1.cells (g' := plV x t pv)
  have hX2 : Ext w1 ((w1.alloc (.cells #[.int .u64 0, .int .u64 0, .slice none 0 0] 47)).setCells w1.heap.size 0 (row 3 (plV x t pv))) := below_setCells w1.heap.size (Nat.le_refl _) _ 0 _ ((Below.refl _ _).alloc (Nat.le_refl _) _)
  have hv1 : pv.oneCell' = true := by
    rcases hO1.2 with ⟨e, _⟩ | ⟨g, cc, cur, e, _⟩ <;> rw [e] <;> rfl
  refine wpList_to rfl (.pointer (some ⟨w1.heap.size, 0, none⟩)) (w1.alloc (.cells #[.int .u64 0, .int .u64 0, .slice none 0 0] 47)) (alloc47 rfl) ?_
  simp only [Act.put, List.setIfInBounds_toArray, List.set_cons_zero, List.set_cons_succ]
  refine wpList_store_mid rfl 47 (.tmp 6) (.tmp 12) rfl w1.heap.size 0 (row 3 (plV x t pv)).toArray rfl rfl (by rw [row_size]; exact hT1.there) (by rw [row_size]; exact info47) (row_one (plV_one hv1)) ?_
  rw [show (row 3 (plV x t pv)).toArray.toList = row 3 (plV x t pv) from rfl]
  have hO2 := (hO1.ext hX2).il hbi
  have hE2 := hideit (Ext.trans hX1 hX2)
  generalize (w1.alloc (.cells #[.int .u64 0, .int .u64 0, .slice none 0 0] 47)).setCells w1.heap.size 0 (row 3 (plV x t pv)) = w2 at *
  generalize w1.heap.size = p6 at *
  replace hT2 := hideit hT2
  clear kp hT1 hX2 hX1 hO1 hv1
  simp only [Act.put]
  have km := may_any x t pv n bs w2 hO2 hn true (by rw [ht.out]; simp [hyes.1])
  rw [plA_row] at km
  replace km := hideit km
  go_upto_region 2 with (fail)
  refine wp_region_lit ?_
  refine wpList_run rfl (.agg (row 3 (plV x t pv)).toArray) (exec_loadR 47 (.tmp 6) rfl p6 0 3 _ rfl hT2.out.range Tryd.underlying47 rfl info47) ?_
  simp only [Act.put, List.setIfInBounds_toArray, List.set_cons_zero, List.set_cons_succ]
  refine wpList_call rfl (by simp [go_sem]) ((km.out).mono ?_)
  rintro e w3 ⟨rfl, hX3⟩
  refine ⟨_, rfl, ?_⟩
  simp only [Act.put, List.setIfInBounds_toArray, List.set_cons_zero, List.set_cons_succ]
  have hE3 := hideit (Ext.trans hE2.out hX3)
  have kc := hideit (contains_odd (.slice o n cap) n bs us ls fs w3 (hL.out.ext hE3.out) hn false (by simp [hyes.2]))
  refine wpList_run rfl (.bool false) (by simp [go_sem]) ?_
  simp only [Act.put, List.setIfInBounds_toArray, List.set_cons_zero, List.set_cons_succ]
  refine wpList_run rfl (.bool false) (by simp [go_sem]) ?_
  simp only [Act.put, List.setIfInBounds_toArray, List.set_cons_zero, List.set_cons_succ]
  refine wpList_runW rfl (.slice o n cap) (by simp [go_sem]) ?_
  simp only [Act.put, List.setIfInBounds_toArray, List.set_cons_zero, List.set_cons_succ]
  refine wpList_callW rfl (by simp [go_sem]) ((kc.out).mono ?_)
  rintro e w4 ⟨rfl, hX4⟩
  refine ⟨_, rfl, ?_⟩
  simp only [Act.put, List.setIfInBounds_toArray, List.set_cons_zero, List.set_cons_succ]
  refine wpList_run rfl (.bool false) (by simp [go_sem]) ?_
  simp only [Act.put, List.setIfInBounds_toArray, List.set_cons_zero, List.set_cons_succ]
  have hE4 := hideit (Ext.trans hE3.out hX4)
  have hX24 := Ext.trans hX3 hX4
  have hT4 := hideit (hT2.out.carry hX24)
  have kb := plblock_any x t pv n bs w4 (hO2.ext hX24) hn64 hrb'.out
  rw [plA_row] at kb
  replace kb := hideit kb
  clear km kc hX3 hX4 hX24 hE3 hE2 hT2 hO2
  go_upto_region 4 with (fail)
  refine wp_region_lit ?_
  refine wpList_run rfl (.agg (row 3 (plV x t pv)).toArray) (exec_loadR 47 (.tmp 6) rfl p6 0 3 _ rfl hT4.out.range Tryd.underlying47 rfl info47) ?_
  simp only [Act.put, List.setIfInBounds_toArray, List.set_cons_zero, List.set_cons_succ]
  refine wpList_call rfl (by simp [go_sem]) ((kb.out).mono ?_)
  rintro e w5 ⟨z, rfl, _, hR5, hX5⟩
  refine ⟨_, rfl, ?_⟩
  simp only [Act.put, List.setIfInBounds_toArray, List.set_cons_zero, List.set_cons_succ]
  have hE5 := Ext.trans hE4.out hX5
  have hX6 : Ext w5 (w5.alloc (.cells #[.slice (some ⟨z, 0, none⟩) 512 512] 34)) := (Below.refl _ _).alloc (Nat.le_refl _) _
  have hb6 : Hid (BLs w.heap.size (.slice (some ⟨w5.heap.size, 0, none⟩) 1 1) (0 + 1) (fun _ => .slice (some ⟨z, 0, none⟩) 512 512) (bkF x t n bs fs) (w5.alloc (.cells #[.slice (some ⟨z, 0, none⟩) 512 512] 34))) := bls_one (Below.size hE5) hR5
  have hE6 := hideit (Ext.trans hE5 hX6)
  clear kb hR5 hX5 hE5 hE4 hT4
  refine wpList_to rfl (.slice (some ⟨w5.heap.size, 0, none⟩) 1 1) (w5.alloc (.cells #[.slice (some ⟨z, 0, none⟩) 512 512] 34)) (by simp [go_sem]) ?_
  simp only [Act.put, List.setIfInBounds_toArray, List.set_cons_zero, List.set_cons_succ]
  refine wpList_run rfl (.slice (some ⟨w5.heap.size, 0, none⟩) 1 1) (by simp [go_sem]) ?_
  simp only [Act.put, List.setIfInBounds_toArray, List.set_cons_zero, List.set_cons_succ]
  generalize w5.alloc (.cells #[.slice (some ⟨z, 0, none⟩) 512 512] 34) = w6 at *
  generalize w5.heap.size = q5 at *
  clear hX6
  go_wp2
  go_loopw [7, 9, 25] (fun bv _ iv X => ∃ (k : Nat) (us' : Nat → Value), k ≤ n ∧ iv = .int .i64 (k : Int) ∧ BLs w.heap.size bv (k + 1) us' (bkF x t n bs fs) X ∧ Ext w X) (fun _ _ iv _ => 100 - (intOf iv).toNat)
  case atStart => exact ⟨0, _, Nat.zero_le _, rfl, hb6.out, hE6.out⟩
  case round =>
    rename_i bv _ _
    obtain ⟨k, us', hk, rfl, hI, hE⟩ := hrel
    clear hb6 hE6
    by_cases hlt : k < n
    · have k0 : (0 : Int) ≤ (k : Int) := by omega
      have k1 : (k : Int) < (n : Int) := by omega
      obtain ⟨a, rfl, hel⟩ := (hL.out.ext hE).at k hlt
      obtain ⟨hpv, hls⟩ := (hL.out.ext hE).2 k hlt
      rw [hlen.out k hlt] at hpv
      obtain ⟨uo, ucp, hu⟩ := hpv.form
      have hX2 : Ext wr ((wr.alloc (.cells #[.int .i64 0, .slice none 0 0] 51)).setCells wr.heap.size 0 (row 2 (rdC (fun _ => bs k) (fun _ => us k)))) := below_setCells wr.heap.size (Nat.le_refl _) _ 0 _ ((Below.refl _ _).alloc (Nat.le_refl _) _)
      have hTt : RowAt wr.heap.size 2 (rdC (fun _ => 0) (fun _ => .slice none 0 0)) (wr.alloc (.cells #[.int .i64 0, .slice none 0 0] 51)) := RowAt.newOf wr 2 _ 51 _ fun j hj => by rcases (by omega : j = 0 ∨ j = 1) with rfl | rfl <;> rfl
      have hR2 := hTt.cells (g' := rdC (fun _ => bs k) (fun _ => us k))
      go_upto_region 6 with (fail)
      refine wp_region_lit ?_
      refine wpList_run rfl (.bool true) (by simp [go_sem, k1]) ?_
      simp only [Act.put, List.setIfInBounds_toArray, List.set_cons_zero, List.set_cons_succ]
      go_upto_region 7 with (fail)
      refine wp_region_lit ?_
      refine wpList_run rfl (.pointer (some (a.add (k * 2)))) (by simp [go_sem, k1]) ?_
      simp only [Act.put, List.setIfInBounds_toArray, List.set_cons_zero, List.set_cons_succ]
      refine wpList_run rfl (.agg (row 2 (rdC (fun _ => bs k) (fun _ => us k))).toArray) (exec_loadL 51 (.tmp 27) rfl (a.add (k * 2)) 2 _ rfl hel Tryd.underlying51 rfl info51) ?_
      simp only [Act.put, List.setIfInBounds_toArray, List.set_cons_zero, List.set_cons_succ]
      refine wpList_to rfl (.pointer (some ⟨wr.heap.size, 0, none⟩)) (wr.alloc (.cells #[.int .i64 0, .slice none 0 0] 51)) (alloc51 rfl) ?_
      simp only [Act.put, List.setIfInBounds_toArray, List.set_cons_zero, List.set_cons_succ]
      refine wpList_store_mid rfl 51 (.tmp 9) (.tmp 28) rfl wr.heap.size 0 (row 2 (rdC (fun _ => bs k) (fun _ => us k))).toArray rfl rfl (by rw [row_size]; exact hTt.there) (by rw [row_size]; exact info51) (row_one (rdC_one (by rw [hu]; rfl))) ?_
      rw [show (row 2 (rdC (fun _ => bs k) (fun _ => us k))).toArray.toList = row 2 (rdC (fun _ => bs k) (fun _ => us k)) from rfl]
      have hI2 := hI.ext hX2
      have hE2 := Ext.trans hE hX2
      have hpv2 := hpv.ext hX2
      generalize (wr.alloc (.cells #[.int .i64 0, .slice none 0 0] 51)).setCells wr.heap.size 0 (row 2 (rdC (fun _ => bs k) (fun _ => us k))) = x2 at *
      generalize wr.heap.size = wx at *
      clear hTt hX2 hel hI hE hpv
      simp only [Act.put]
      have f1 : x2.cell? ⟨wx, 1, none⟩ = some (.slice uo 512 ucp) := by rw [← hu]; exact hR2.1 1 (by decide)
      have ks := hideit (standing_any (.slice uo 512 ucp) 512 (fs k) x2 (by rw [← hu]; exact hpv2.bv (by decide)) (by decide))
      clear hpv2 hu hR2
      obtain ⟨ob, cb, rfl⟩ := hI2.form
      go_upto_region 8 with (fail)
      refine wp_region_lit ?_
      refine wpList_run rfl (.slice ob (k + 1) cb) (by simp [go_sem]) ?_
      simp only [Act.put, List.setIfInBounds_toArray, List.set_cons_zero, List.set_cons_succ]
      refine wpList_run rfl (.pointer (some ⟨wx, 1, none⟩)) (by simp [go_sem]) ?_
      simp only [Act.put, List.setIfInBounds_toArray, List.set_cons_zero, List.set_cons_succ]
      refine wpList_run rfl (.slice uo 512 ucp) (by simp [go_sem, f1]) ?_
      simp only [Act.put, List.setIfInBounds_toArray, List.set_cons_zero, List.set_cons_succ]
      refine wpList_call rfl (by simp [go_sem]) ((ks.out).mono ?_)
      rintro e x3 ⟨sv, rfl, hO3, hX3⟩
      refine ⟨_, rfl, ?_⟩
      simp only [Act.put, List.setIfInBounds_toArray, List.set_cons_zero, List.set_cons_succ]
      obtain ⟨z, cp, rfl, hz, hcp, _, hR3⟩ := hO3.lies (by decide)
      have hI3 := hI2.ext hX3
      have hE3 := Ext.trans hE2 hX3
      obtain ⟨v4, x4, r4, hI4, hB4⟩ := hI3.app (Below.size hE3) (by omega) hcp (hR3.lie 512 (Nat.le_refl _)) (fun e => by
        have := (hI2.own.lt z e).2
        omega) 24
      have hE4 := hideit (below_ext hE3 (Nat.le_refl _) hB4)
      have hI5 : Hid (BLs w.heap.size v4 (k + 1 + 1) (up1 us' (k + 1) (.slice (some ⟨z, 0, none⟩) 512 cp)) (bkF x t n bs fs) x4) := hI4.congr fun i hi => by
        by_cases e : i = k + 1
        · subst e
          rw [up1_same]
          rfl
        · rw [up1_other _ e]
      clear ks hO3 hX3 hR3 hI2 hI3 hI4 hB4 hE2 hE3 f1
      refine wpList_to rfl (.slice (some ⟨x3.heap.size, 0, none⟩) 1 1) (x3.alloc (.cells #[.slice (some ⟨z, 0, none⟩) 512 cp] 34)) (by simp [go_sem]) ?_
      simp only [Act.put, List.setIfInBounds_toArray, List.set_cons_zero, List.set_cons_succ]
      refine wpList_to rfl v4 x4 (exec_app (.tmp 29) (.tmp 33) rfl rfl rfl r4) ?_
      simp only [Act.put, List.setIfInBounds_toArray, List.set_cons_zero, List.set_cons_succ]
      refine wpList_run rfl (v4) (by simp [go_sem]) ?_
      simp only [Act.put, List.setIfInBounds_toArray, List.set_cons_zero, List.set_cons_succ]
      clear r4
      go_wp2
      exact ⟨⟨k + 1, _, by omega, by go_num, hI5.out, hE4.out⟩, by simp [intOf]; omega⟩
    · obtain rfl : k = n := by omega
      have k1 : ¬ (k : Int) < (k : Int) := by omega
      have ksl := seal_any x hI.parts (TabC.ext hT.out hE) (by omega) (by rw [sum512]; omega)
      replace ksl := hideit ksl
      obtain ⟨ob, cb, rfl⟩ := hI.form
      go_upto_region 6 with (fail)
      refine wp_region_lit ?_
      refine wpList_run rfl (.bool false) (by simp [go_sem, k1]) ?_
      simp only [Act.put, List.setIfInBounds_toArray, List.set_cons_zero, List.set_cons_succ]
      go_upto_region 10 with (fail)
      refine wp_region_lit ?_
      refine wpList_run rfl (.slice ob (k + 1) cb) (by simp [go_sem]) ?_
      simp only [Act.put, List.setIfInBounds_toArray, List.set_cons_zero, List.set_cons_succ]
      refine wpList_run rfl (.int .u64 (x.toNat : Int)) (by simp [go_sem]) ?_
      simp only [Act.put, List.setIfInBounds_toArray, List.set_cons_zero, List.set_cons_succ]
      refine wpList_run rfl (.slice ob (k + 1) cb) (by simp [go_sem]) ?_
      simp only [Act.put, List.setIfInBounds_toArray, List.set_cons_zero, List.set_cons_succ]
      refine wpList_call rfl (by simp [go_sem]) ((ksl.out).mono ?_)
      rintro e x3 ⟨z, rfl, hz, hR3, hX3⟩
      refine ⟨_, rfl, ?_⟩
      simp only [Act.put, List.setIfInBounds_toArray, List.set_cons_zero, List.set_cons_succ]
      have hI3 := hI.ext hX3
      have hE3 := Ext.trans hE hX3
      obtain ⟨v4, x4, r4, hI4, hB4⟩ := hI3.app (Below.size hE3) (by omega) (Nat.le_refl 512) (hR3.lie 512 (Nat.le_refl _)) (fun e => by
        have := (hI.own.lt z e).2
        omega) 24
      have hE4 := hideit (below_ext hE3 (Nat.le_refl _) hB4)
      have hI5 : Hid (BLs w.heap.size v4 (k + 1 + 1) (up1 us' (k + 1) (.slice (some ⟨z, 0, none⟩) 512 512)) (trF x t k bs fs) x4) := hI4.congr fun i hi => by
        unfold trF
        by_cases e : i = k + 1
        · subst e
          rw [up1_same, if_pos rfl]
        · rw [up1_other _ e, if_neg e]
      clear ksl hX3 hR3 hI hI3 hI4 hB4 hE hE3
      refine wpList_to rfl (.slice (some ⟨x3.heap.size, 0, none⟩) 1 1) (x3.alloc (.cells #[.slice (some ⟨z, 0, none⟩) 512 512] 34)) (by simp [go_sem]) ?_
      simp only [Act.put, List.setIfInBounds_toArray, List.set_cons_zero, List.set_cons_succ]
      refine wpList_to rfl v4 x4 (exec_app (.tmp 36) (.tmp 40) rfl rfl rfl r4) ?_
      simp only [Act.put, List.setIfInBounds_toArray, List.set_cons_zero, List.set_cons_succ]
      refine wpList_run rfl (v4) (by simp [go_sem]) ?_
      simp only [Act.put, List.setIfInBounds_toArray, List.set_cons_zero, List.set_cons_succ]
      refine wpList_run rfl (.int .i64 0) (by simp [go_sem]) ?_
      simp only [Act.put, List.setIfInBounds_toArray, List.set_cons_zero, List.set_cons_succ]
      clear r4
      go_wp2
      go_ret2
      exact ⟨v4, rfl, ⟨_, by rw [← ht.out]; exact hI5.out⟩, hE4.out⟩
end Go.Proofs.YtedgopionpdfeaaDoor
