/-
  The document's Blocks, where they may not be. The document's done.
-/
import Derived.Test.YtedgopionpdfeaaDoorQ39
import Derived.Test.YtedgopionpdfeaaDoorQ38
import Derived.OrdersHeld
namespace Go.Proofs.YtedgopionpdfeaaDoor
open Go.RowKit Go.BigFrame
set_option linter.unusedVariables false
theorem wpList_giB {ops : Array Oper} {rest : List Oper} {o : Oper} {a : Act} {Q : Exit → Act → World → Prop} {w0 X : World} {v : Value} {n : Nat} {g : Nat → Int} (hgd : o.guard = none) (s x : Operand)
    (ho : o.op = .call { callee := .builtin .append, args := #[s, x], argTypes := #[36, 36] }) (hs : a.eval s = v) (hG : GI w0 v n g X) (b : Nat) (z : Int) (hx : a.eval x = .slice (some ⟨b, 0, none⟩) 1 1) (hb : RowAt b 1 (fun _ => .int .i64 z) X) (hz : z = g n) (hn : n ≤ 4398046511104)
    (h : ∀ v' X', GI w0 v' (n + 1) g X' → wpList Tryd.prog ops Q rest (a.put o.dst v') X') : wpList Tryd.prog ops Q (o :: rest) a X := by
  refine wpList_growE (n := n) (base := w0.heap.size) elem36 hgd s x ho hs hG.1 ⟨b, 0, none⟩ 1 1 (fun _ => .int .i64 z) (fun j => .int .i64 (g j)) hx (RowAt.lie hb 1 (Nat.le_refl _)) (fun j hj => rfl) (fun j hj => rfl) (fun j hj => by rw [show n + j = n by omega, hz]) (by omega) (by omega) (Below.size hG.2) ?_
  intro v' X' hO hg
  exact h v' X' ⟨hO, Below.trans hG.2 (below_grown (Below.size hG.2) hg fun k hk => (hG.1.lt k hk).1)⟩
theorem tmK_shr (ls : Nat → Nat) (fs : Nat → Nat → BitVec 8) (n : Nat) (hn : n ≤ 64) : tmK ls fs n >>> n = 0#64 := by
  apply BitVec.eq_of_getLsbD_eq
  intro i hi
  rw [BitVec.getLsbD_ushiftRight, BitVec.getLsbD_zero]
  by_cases h : n + i < 64
  · rw [tmK_bit ls fs n hn (n + i) h, decide_eq_false (by omega), Bool.false_and]
  · exact BitVec.getLsbD_of_ge _ _ (by omega)
set_option maxRecDepth 20000 in
set_option maxHeartbeats 4000000 in
theorem rb_no (x : BitVec 64) (v0 : Value) (n : Nat) (bs : Nat → Int) (us : Nat → Value) (ls : Nat → Nat) (fs : Nat → Nat → BitVec 8) (w : World) (hL : RLs v0 n bs us ls fs w) (hbi : ∀ i, i < n → okI (bs i)) (hn : n ≤ 4398046511104) (hok : ¬ okT x n bs ls fs) : Calls Tryd.prog 9 #[.int .u64 (x.toNat : Int), v0] w fun e w' => e = .returned (.tuple #[.slice none 0 0, .int .i64 1]) ∧ Ext w w' := by
  obtain ⟨o, cap, rfl⟩ := hL.form
  replace hL := hideit hL
  replace hbi := hideit hbi
  replace hn := hideit hn
  replace hok := hideit hok
  go_enter Tryd.func9, Tryd.ntmps9
  go_wp2
  go_loopw [6, 7] (fun v i X => ∃ k : Nat, k ≤ n ∧ i = .int .i64 (k : Int) ∧ GI w v k bs X ∧ ∀ j, j < k → ls j = 512) (fun _ i _ => 4398046511104 - (intOf i).toNat)
  case atStart => exact ⟨0, Nat.zero_le _, rfl, GI.nil w (Ext.refl w) bs, fun j hj => absurd hj (Nat.not_lt_zero _)⟩
  case round =>
    obtain ⟨k, hk, rfl, hG, hI⟩ := hrel
    have hX := hideit hG.2
    obtain ⟨vo, vc, rfl⟩ := hG.form fun j hj => hbi.out j (by omega)
    replace hG := hideit hG
    replace hI := hideit hI
    by_cases hlt : k < n
    · have k1 : (k : Int) < (n : Int) := by omega
      have ek : IntKind.i64.wrap ((k : Int) + 1) = ((k + 1 : Nat) : Int) := by have := hn.out; rw [IntKind.wrap_i64]; omega
      obtain ⟨a, rfl, _⟩ := hL.out.at k hlt
      have hel : Hid (∀ X, Ext w X → X.cell? (a.add (k * 2)) = some (.int .i64 (bs k)) ∧ X.cell? ⟨(a.add (k * 2)).block, (a.add (k * 2)).off + 1, none⟩ = some (us k)) := fun X hX' => by
        obtain ⟨_, e1, q1⟩ := (hL.out.ext hX').at k hlt
        injection e1 with e1
        subst e1
        exact ⟨by have := q1.1 0 (by decide); rwa [add_zero'] at this, by have := q1.1 1 (by decide); rwa [add_one'] at this⟩
      obtain ⟨bo, bc, hbu⟩ := (hL.out.2 k hlt).1.form
      obtain ⟨l, hl⟩ : ∃ l, ls k = l := ⟨_, rfl⟩
      rw [hl] at hbu
      have c0 := (hel.out wr hX.out).1
      replace hlt := hideit hlt
      replace hl := hideit hl
      replace hbu := hideit hbu
      go_upto_region 3 with (fail)
      refine wp_region_lit ?_
      refine wpList_run rfl (.int .i64 (k : Int)) (by simp [go_sem]) ?_
      simp only [Act.put, List.setIfInBounds_toArray, List.set_cons_zero, List.set_cons_succ]
      refine wpList_run rfl (.slice (some a) n cap) (by simp [go_sem]) ?_
      simp only [Act.put, List.setIfInBounds_toArray, List.set_cons_zero, List.set_cons_succ]
      refine wpList_run rfl (.int .i64 (n : Int)) (by simp [go_sem]) ?_
      simp only [Act.put, List.setIfInBounds_toArray, List.set_cons_zero, List.set_cons_succ]
      refine wpList_run rfl (.bool true) (by simp [go_sem, k1]) ?_
      simp only [Act.put, List.setIfInBounds_toArray, List.set_cons_zero, List.set_cons_succ]
      go_upto_region 5 with (fail)
      refine wp_region_lit ?_
      refine wpList_run rfl (.slice vo k vc) (by simp [go_sem]) ?_
      simp only [Act.put, List.setIfInBounds_toArray, List.set_cons_zero, List.set_cons_succ]
      refine wpList_run rfl (.slice (some a) n cap) (by simp [go_sem]) ?_
      simp only [Act.put, List.setIfInBounds_toArray, List.set_cons_zero, List.set_cons_succ]
      refine wpList_run rfl (.int .i64 (k : Int)) (by simp [go_sem]) ?_
      simp only [Act.put, List.setIfInBounds_toArray, List.set_cons_zero, List.set_cons_succ]
      refine wpList_run rfl (.pointer (some (a.add (k * 2)))) (by simp [go_sem, k1]) ?_
      simp only [Act.put, List.setIfInBounds_toArray, List.set_cons_zero, List.set_cons_succ]
      refine wpList_run rfl (.pointer (some (a.add (k * 2)))) (by simp [go_sem]) ?_
      simp only [Act.put, List.setIfInBounds_toArray, List.set_cons_zero, List.set_cons_succ]
      refine wpList_run rfl (.int .i64 (bs k)) (by simp [go_sem, c0]) ?_
      simp only [Act.put, List.setIfInBounds_toArray, List.set_cons_zero, List.set_cons_succ]
      have N1 := hideit (RowAt.new wr 1 (fun _ => .int .i64 (bs k)) 3)
      have XN : Ext wr (wr.alloc (.cells (row 1 fun _ => .int .i64 (bs k)).toArray 3)) := (Below.refl _ _).alloc (Nat.le_refl _) _
      refine wpList_to rfl (.slice (some ⟨wr.heap.size, 0, none⟩) 1 1) (wr.alloc (.cells (row 1 fun _ => .int .i64 (bs k)).toArray 3)) (by simp [go_sem, row]) ?_
      simp only [Act.put, List.setIfInBounds_toArray, List.set_cons_zero, List.set_cons_succ]
      replace hG := hideit (hG.out.ext XN)
      clear XN c0
      generalize wr.alloc (.cells (row 1 fun _ => .int .i64 (bs k)).toArray 3) = x9 at N1 hG ⊢
      obtain ⟨g9, hg9⟩ : ∃ g, g = wr.heap.size := ⟨_, rfl⟩
      rw [← hg9] at N1 ⊢
      clear hg9
      refine wpList_giB rfl (.tmp 21) (.tmp 27) rfl rfl hG.out g9 (bs k) rfl N1.out rfl (by have := hn.out; omega) ?_
      intro v5 w5 hG5
      simp only [Act.put, List.setIfInBounds_toArray, List.set_cons_zero, List.set_cons_succ]
      have hX5 := hideit hG5.2
      replace hG5 := hideit hG5
      have c1 := (hel.out w5 hX5.out).2
      rw [hbu.out] at c1
      clear hG N1 hX
      refine wpList_run rfl (v5) (by simp [go_sem]) ?_
      simp only [Act.put, List.setIfInBounds_toArray, List.set_cons_zero, List.set_cons_succ]
      by_cases hl5 : l = 512
      · subst hl5
        go_upto_region 6 with (fail)
        refine wp_region_lit ?_
        refine wpList_run rfl (.slice (some a) n cap) (by simp [go_sem]) ?_
        simp only [Act.put, List.setIfInBounds_toArray, List.set_cons_zero, List.set_cons_succ]
        refine wpList_run rfl (.int .i64 (k : Int)) (by simp [go_sem]) ?_
        simp only [Act.put, List.setIfInBounds_toArray, List.set_cons_zero, List.set_cons_succ]
        refine wpList_run rfl (.pointer (some (a.add (k * 2)))) (by simp [go_sem, k1]) ?_
        simp only [Act.put, List.setIfInBounds_toArray, List.set_cons_zero, List.set_cons_succ]
        refine wpList_run rfl (.pointer (some ⟨(a.add (k * 2)).block, (a.add (k * 2)).off + 1, none⟩)) (by simp [go_sem]) ?_
        simp only [Act.put, List.setIfInBounds_toArray, List.set_cons_zero, List.set_cons_succ]
        refine wpList_run rfl (.slice bo 512 bc) (by simp [go_sem, c1]) ?_
        simp only [Act.put, List.setIfInBounds_toArray, List.set_cons_zero, List.set_cons_succ]
        refine wpList_run rfl (.int .i64 512) (by simp [go_sem]) ?_
        simp only [Act.put, List.setIfInBounds_toArray, List.set_cons_zero, List.set_cons_succ]
        refine wpList_run rfl (.bool false) (by simp [go_sem]) ?_
        simp only [Act.put, List.setIfInBounds_toArray, List.set_cons_zero, List.set_cons_succ]
        clear c1
        go_upto_region 4 with (fail)
        refine wp_region_lit ?_
        refine wpList_run rfl (.int .i64 (k : Int)) (by simp [go_sem]) ?_
        simp only [Act.put, List.setIfInBounds_toArray, List.set_cons_zero, List.set_cons_succ]
        refine wpList_run rfl (.int .i64 ((k + 1 : Nat) : Int)) (by simp [go_sem, ek]) ?_
        simp only [Act.put, List.setIfInBounds_toArray, List.set_cons_zero, List.set_cons_succ]
        refine wpList_run rfl (.int .i64 ((k + 1 : Nat) : Int)) (by simp [go_sem]) ?_
        simp only [Act.put, List.setIfInBounds_toArray, List.set_cons_zero, List.set_cons_succ]
        go_wp2
        refine ⟨⟨k + 1, by have := hlt.out; omega, rfl, hG5.out, fun j hj => ?_⟩, by have := hlt.out; have := hn.out; simp [intOf]; omega⟩
        by_cases e : j = k
        · rw [e]; exact hl.out
        · exact hI.out j (by omega)
      · have hl6 : ¬ (l : Int) = 512 := by omega
        go_upto_region 6 with (fail)
        refine wp_region_lit ?_
        refine wpList_run rfl (.slice (some a) n cap) (by simp [go_sem]) ?_
        simp only [Act.put, List.setIfInBounds_toArray, List.set_cons_zero, List.set_cons_succ]
        refine wpList_run rfl (.int .i64 (k : Int)) (by simp [go_sem]) ?_
        simp only [Act.put, List.setIfInBounds_toArray, List.set_cons_zero, List.set_cons_succ]
        refine wpList_run rfl (.pointer (some (a.add (k * 2)))) (by simp [go_sem, k1]) ?_
        simp only [Act.put, List.setIfInBounds_toArray, List.set_cons_zero, List.set_cons_succ]
        refine wpList_run rfl (.pointer (some ⟨(a.add (k * 2)).block, (a.add (k * 2)).off + 1, none⟩)) (by simp [go_sem]) ?_
        simp only [Act.put, List.setIfInBounds_toArray, List.set_cons_zero, List.set_cons_succ]
        refine wpList_run rfl (.slice bo l bc) (by simp [go_sem, c1]) ?_
        simp only [Act.put, List.setIfInBounds_toArray, List.set_cons_zero, List.set_cons_succ]
        refine wpList_run rfl (.int .i64 (l : Int)) (by simp [go_sem]) ?_
        simp only [Act.put, List.setIfInBounds_toArray, List.set_cons_zero, List.set_cons_succ]
        refine wpList_run rfl (.bool true) (by simp [go_sem, hl6]) ?_
        simp only [Act.put, List.setIfInBounds_toArray, List.set_cons_zero, List.set_cons_succ]
        go_wp2
        refine bodyPost_ret (res2 rfl _ _ _) rfl ?_
        exact ⟨rfl, hX5.out⟩
    · obtain rfl : k = n := by omega
      have k1 : ¬ (k : Int) < (k : Int) := by omega
      by_cases x0 : x.toNat = 0
      · go_upto_region 3 with (fail)
        refine wp_region_lit ?_
        refine wpList_run rfl (.int .i64 (k : Int)) (by simp [go_sem]) ?_
        simp only [Act.put, List.setIfInBounds_toArray, List.set_cons_zero, List.set_cons_succ]
        refine wpList_run rfl (.slice o k cap) (by simp [go_sem]) ?_
        simp only [Act.put, List.setIfInBounds_toArray, List.set_cons_zero, List.set_cons_succ]
        refine wpList_run rfl (.int .i64 (k : Int)) (by simp [go_sem]) ?_
        simp only [Act.put, List.setIfInBounds_toArray, List.set_cons_zero, List.set_cons_succ]
        refine wpList_run rfl (.bool false) (by simp [go_sem, k1]) ?_
        simp only [Act.put, List.setIfInBounds_toArray, List.set_cons_zero, List.set_cons_succ]
        go_upto_region 8 with (fail)
        refine wp_region_lit ?_
        refine wpList_run rfl (.int .u64 (x.toNat : Int)) (by simp [go_sem]) ?_
        simp only [Act.put, List.setIfInBounds_toArray, List.set_cons_zero, List.set_cons_succ]
        refine wpList_run rfl (.bool true) (by simp [go_sem, x0]) ?_
        simp only [Act.put, List.setIfInBounds_toArray, List.set_cons_zero, List.set_cons_succ]
        refine wpList_run rfl (.bool true) (by simp [go_sem]) ?_
        simp only [Act.put, List.setIfInBounds_toArray, List.set_cons_zero, List.set_cons_succ]
        with_reducible refine xnot (by with_unfolding_all rfl) ?_
        simp only [Act.put, List.setIfInBounds_toArray, List.set_cons_zero, List.set_cons_succ]
        with_reducible refine xnot (by with_unfolding_all rfl) ?_
        simp only [Act.put, List.setIfInBounds_toArray, List.set_cons_zero, List.set_cons_succ]
        with_reducible refine xnot (by with_unfolding_all rfl) ?_
        simp only [Act.put, List.setIfInBounds_toArray, List.set_cons_zero, List.set_cons_succ]
        refine wpList_run rfl (.bool true) (by simp [go_sem]) ?_
        simp only [Act.put, List.setIfInBounds_toArray, List.set_cons_zero, List.set_cons_succ]
        refine wpList_run rfl (.bool true) (by simp [go_sem]) ?_
        simp only [Act.put, List.setIfInBounds_toArray, List.set_cons_zero, List.set_cons_succ]
        with_reducible refine xnot (by with_unfolding_all rfl) ?_
        simp only [Act.put, List.setIfInBounds_toArray, List.set_cons_zero, List.set_cons_succ]
        with_reducible refine xnot (by with_unfolding_all rfl) ?_
        simp only [Act.put, List.setIfInBounds_toArray, List.set_cons_zero, List.set_cons_succ]
        with_reducible refine xnot (by with_unfolding_all rfl) ?_
        simp only [Act.put, List.setIfInBounds_toArray, List.set_cons_zero, List.set_cons_succ]
        refine wpList_run rfl (.bool true) (by simp [go_sem]) ?_
        simp only [Act.put, List.setIfInBounds_toArray, List.set_cons_zero, List.set_cons_succ]
        go_wp2
        refine bodyPost_ret (res2 rfl _ _ _) rfl ?_
        exact ⟨rfl, hX.out⟩
      · by_cases h64 : 64 < k
        · have g64 : (64 : Int) < (k : Int) := by omega
          go_upto_region 3 with (fail)
          refine wp_region_lit ?_
          refine wpList_run rfl (.int .i64 (k : Int)) (by simp [go_sem]) ?_
          simp only [Act.put, List.setIfInBounds_toArray, List.set_cons_zero, List.set_cons_succ]
          refine wpList_run rfl (.slice o k cap) (by simp [go_sem]) ?_
          simp only [Act.put, List.setIfInBounds_toArray, List.set_cons_zero, List.set_cons_succ]
          refine wpList_run rfl (.int .i64 (k : Int)) (by simp [go_sem]) ?_
          simp only [Act.put, List.setIfInBounds_toArray, List.set_cons_zero, List.set_cons_succ]
          refine wpList_run rfl (.bool false) (by simp [go_sem, k1]) ?_
          simp only [Act.put, List.setIfInBounds_toArray, List.set_cons_zero, List.set_cons_succ]
          go_upto_region 8 with (fail)
          refine wp_region_lit ?_
          refine wpList_run rfl (.int .u64 (x.toNat : Int)) (by simp [go_sem]) ?_
          simp only [Act.put, List.setIfInBounds_toArray, List.set_cons_zero, List.set_cons_succ]
          refine wpList_run rfl (.bool false) (by simp [go_sem, x0]) ?_
          simp only [Act.put, List.setIfInBounds_toArray, List.set_cons_zero, List.set_cons_succ]
          refine wpList_run rfl (.bool false) (by simp [go_sem]) ?_
          simp only [Act.put, List.setIfInBounds_toArray, List.set_cons_zero, List.set_cons_succ]
          refine wpList_runW rfl (.slice vo k vc) (by simp [go_sem]) ?_
          simp only [Act.put, List.setIfInBounds_toArray, List.set_cons_zero, List.set_cons_succ]
          refine wpList_runW rfl (.int .i64 (k : Int)) (by simp [go_sem]) ?_
          simp only [Act.put, List.setIfInBounds_toArray, List.set_cons_zero, List.set_cons_succ]
          refine wpList_runW rfl (.bool true) (by simp [go_sem, g64]) ?_
          simp only [Act.put, List.setIfInBounds_toArray, List.set_cons_zero, List.set_cons_succ]
          refine wpList_run rfl (.bool true) (by simp [go_sem]) ?_
          simp only [Act.put, List.setIfInBounds_toArray, List.set_cons_zero, List.set_cons_succ]
          refine wpList_run rfl (.bool true) (by simp [go_sem]) ?_
          simp only [Act.put, List.setIfInBounds_toArray, List.set_cons_zero, List.set_cons_succ]
          with_reducible refine xnot (by with_unfolding_all rfl) ?_
          simp only [Act.put, List.setIfInBounds_toArray, List.set_cons_zero, List.set_cons_succ]
          with_reducible refine xnot (by with_unfolding_all rfl) ?_
          simp only [Act.put, List.setIfInBounds_toArray, List.set_cons_zero, List.set_cons_succ]
          with_reducible refine xnot (by with_unfolding_all rfl) ?_
          simp only [Act.put, List.setIfInBounds_toArray, List.set_cons_zero, List.set_cons_succ]
          refine wpList_run rfl (.bool true) (by simp [go_sem]) ?_
          simp only [Act.put, List.setIfInBounds_toArray, List.set_cons_zero, List.set_cons_succ]
          go_wp2
          refine bodyPost_ret (res2 rfl _ _ _) rfl ?_
          exact ⟨rfl, hX.out⟩
        · have g64 : ¬ (64 : Int) < (k : Int) := by omega
          have hk64 : Hid (k ≤ 64) := hideit (by omega)
          have hr : Hid (¬ (rbs k bs ∧ 1 ≤ k)) := fun h => hok.out ⟨⟨fun e => x0 (u0.2 e), h.2, by omega, tmK_shr ls fs k (by omega), h.1⟩, fun ⟨i, hi, q⟩ => q (hI.out i hi)⟩
          go_upto_region 3 with (fail)
          refine wp_region_lit ?_
          refine wpList_run rfl (.int .i64 (k : Int)) (by simp [go_sem]) ?_
          simp only [Act.put, List.setIfInBounds_toArray, List.set_cons_zero, List.set_cons_succ]
          refine wpList_run rfl (.slice o k cap) (by simp [go_sem]) ?_
          simp only [Act.put, List.setIfInBounds_toArray, List.set_cons_zero, List.set_cons_succ]
          refine wpList_run rfl (.int .i64 (k : Int)) (by simp [go_sem]) ?_
          simp only [Act.put, List.setIfInBounds_toArray, List.set_cons_zero, List.set_cons_succ]
          refine wpList_run rfl (.bool false) (by simp [go_sem, k1]) ?_
          simp only [Act.put, List.setIfInBounds_toArray, List.set_cons_zero, List.set_cons_succ]
          go_upto_region 8 with (fail)
          refine wp_region_lit ?_
          refine wpList_run rfl (.int .u64 (x.toNat : Int)) (by simp [go_sem]) ?_
          simp only [Act.put, List.setIfInBounds_toArray, List.set_cons_zero, List.set_cons_succ]
          refine wpList_run rfl (.bool false) (by simp [go_sem, x0]) ?_
          simp only [Act.put, List.setIfInBounds_toArray, List.set_cons_zero, List.set_cons_succ]
          refine wpList_run rfl (.bool false) (by simp [go_sem]) ?_
          simp only [Act.put, List.setIfInBounds_toArray, List.set_cons_zero, List.set_cons_succ]
          refine wpList_runW rfl (.slice vo k vc) (by simp [go_sem]) ?_
          simp only [Act.put, List.setIfInBounds_toArray, List.set_cons_zero, List.set_cons_succ]
          refine wpList_runW rfl (.int .i64 (k : Int)) (by simp [go_sem]) ?_
          simp only [Act.put, List.setIfInBounds_toArray, List.set_cons_zero, List.set_cons_succ]
          refine wpList_runW rfl (.bool false) (by simp [go_sem, g64]) ?_
          simp only [Act.put, List.setIfInBounds_toArray, List.set_cons_zero, List.set_cons_succ]
          refine wpList_run rfl (.bool false) (by simp [go_sem]) ?_
          simp only [Act.put, List.setIfInBounds_toArray, List.set_cons_zero, List.set_cons_succ]
          refine wpList_run rfl (.bool false) (by simp [go_sem]) ?_
          simp only [Act.put, List.setIfInBounds_toArray, List.set_cons_zero, List.set_cons_succ]
          refine wpList_runW rfl (.slice vo k vc) (by simp [go_sem]) ?_
          simp only [Act.put, List.setIfInBounds_toArray, List.set_cons_zero, List.set_cons_succ]
          refine wpList_callW rfl (by simp [go_sem]) ((rright_any (.slice vo k vc) k bs wr (hG.out.il fun j hj => hbi.out j hj) hk64.out false (iff_of_false (by decide) hr.out)).mono ?_)
          rintro e y1 ⟨rfl, hX2⟩
          refine ⟨_, rfl, ?_⟩
          simp only [Act.put, List.setIfInBounds_toArray, List.set_cons_zero, List.set_cons_succ]
          replace hG := hideit (hG.out.ext hX2)
          replace hX := hideit (Ext.trans hX.out hX2)

          clear hX2
          refine wpList_runW rfl (.bool true) (by simp [go_sem]) ?_
          simp only [Act.put, List.setIfInBounds_toArray, List.set_cons_zero, List.set_cons_succ]
          refine wpList_run rfl (.bool true) (by simp [go_sem]) ?_
          simp only [Act.put, List.setIfInBounds_toArray, List.set_cons_zero, List.set_cons_succ]
          go_wp2
          refine bodyPost_ret (res2 rfl _ _ _) rfl ?_
          exact ⟨rfl, hX.out⟩
end Go.Proofs.YtedgopionpdfeaaDoor
namespace Go.Proofs.YtedgopionpdfeaaDoor
open Go.RowKit Go.BigFrame
set_option linter.unusedVariables false
theorem wpOp_to {P : Program} {ops : Array Oper} {Q : Exit → Act → World → Prop} {i : Nat} {K : Act → World → Prop} {a : Act} {w : World} {o : Oper} (ho : ops[i]? = some o) (hw : Region.wanted o (yielded ops a.tmps) = true) (v : Value) (w' : World) (hr : (execOp a.eval o).run P w = .ok (.value v) w') (h : K (a.put o.dst v) w') : wpOp P ops Q i K a w :=
  EffY.wpOp (R := fun u X => K (a.put o.dst u) X) ho (.inl ⟨hw, by rw [hr]; exact h⟩) fun _ _ h => h
theorem wpOp_call {P : Program} {ops : Array Oper} {Q : Exit → Act → World → Prop} {i : Nat} {K : Act → World → Prop} {a : Act} {w : World} {o : Oper} {f : FuncId} {args : Array Value} (ho : ops[i]? = some o) (hw : Region.wanted o (yielded ops a.tmps) = true) (hr : (execOp a.eval o).run P w = .ok (.enter f args) w)
    (hc : Calls P f args w fun e w' => ∃ v, e = .returned v ∧ K (a.put o.dst v) w') : wpOp P ops Q i K a w :=
  EffY.wpOp (R := fun u X => K (a.put o.dst u) X) ho (.inl ⟨hw, by rw [hr]; exact hc⟩) fun _ _ h => h
theorem exec_append {P : Program} {o : Oper} {a : Act} {w w' : World} (s x : Operand) (t u : TypeId) (ho : o.op = .call { callee := .builtin .append, args := #[s, x], argTypes := #[t, u] }) (v y v' : Value) (hs : a.eval s = v) (hx : a.eval x = y) (hr : (Builtin.append_ #[t, u] o.type #[v, y]).run P w = .ok v' w') : (execOp a.eval o).run P w = .ok (.value v') w' := by
  unfold execOp
  simp only [ho, resolve, invoke, builtin, Sem.run_bind, Sem.run_pure, Result.andThen_ok, List.map_toArray, List.map_cons, List.map_nil, hs, hx, hr]
theorem run_gb {w0 X : World} {n : Nat} {v : Value} {f : Nat → BitVec 8} (ty : TypeId) (h : GB w0 v n f X) (xv : Value) (m : Nat) (b : Nat → BitVec 8) (hb : BV xv m b X) (hm : 0 < m) (hnm : n + m ≤ 1000000) :
    ∃ v' Y, (Builtin.append_ #[34, 34] ty #[v, xv]).run Tryd.prog X = .ok v' Y ∧ GB w0 v' (n + m) (catF f n b) Y := by
  rcases hb with ⟨_, h0⟩ | ⟨ad, c, rfl, _, hl⟩
  · omega
  obtain ⟨i, z, e1, e2, e3, e4, e5⟩ := elem22.info
  obtain ⟨v', w', h1, h2, h3, _⟩ := run_append_own (P := Tryd.prog) X w0.heap.size 34 ty 5 i z 1 1 elem22.slice e1 e2 e3 e4 e5 (by decide) v n (row n (yv f)) h.1 ad m c (row m (yv b)) (by rw [row_length, Nat.mul_one]) (fun j u hj => by
    obtain ⟨hj', rfl⟩ := row_some hj
    exact hl.1 j hj') (fun u hu => by
    obtain ⟨j, _, rfl⟩ := List.mem_map.1 hu
    rfl) (by unfold maxLen; omega) (by omega) (Below.size h.2)
  refine ⟨v', w', h1, ?_, Below.trans h.2 (below_grown (Below.size h.2) h3 fun k hk => (h.1.lt k hk).1)⟩
  unfold OwnB
  rw [row_append n m (yv f) (yv b) (yv (catF f n b)) (fun j hj => by simp only [yv]; unfold catF; rw [if_pos hj]) (fun j hj => by simp only [yv]; unfold catF; rw [if_neg (by omega), Nat.add_sub_cancel_left])] at h2
  exact h2
theorem run_gbC {w0 X : World} {n : Nat} {f : Nat → BitVec 8} (ty : TypeId) (hE : Ext w0 X) (ad0 : Addr) (hf : BV (.slice (some ad0) n n) n f X) (xv : Value) (m : Nat) (b : Nat → BitVec 8) (hb : BV xv m b X) (hm : 0 < m) (hnm : n + m ≤ 1000000) :
    ∃ v' Y, (Builtin.append_ #[34, 34] ty #[.slice (some ad0) n n, xv]).run Tryd.prog X = .ok v' Y ∧ GB w0 v' (n + m) (catF f n b) Y ∧ Ext X Y := by
  rcases hb with ⟨_, h0⟩ | ⟨ad, c, rfl, _, hl⟩
  · omega
  have hf' : LieAt ad0 n (yv f) X := by
    rcases hf with ⟨h, _⟩ | ⟨a', c, h, _, hl⟩
    · cases h
    · injection h with h
      injection h with h
      subst h
      exact hl
  obtain ⟨i, z, e1, e2, e3, e4, e5⟩ := elem22.info
  obtain ⟨v', Y, h1, h2, h3⟩ := run_append_arg_grows (P := Tryd.prog) X 34 ty 5 i z 1 1 elem22.slice e1 e2 e3 e4 e5 (by decide) ad0 n n (row n (yv f)) (by rw [row_length, Nat.mul_one]) (fun j u hj => by
    obtain ⟨hj', rfl⟩ := row_some hj
    exact hf'.1 j hj') ad m c (row m (yv b)) (by rw [row_length, Nat.mul_one]) (fun j u hj => by
    obtain ⟨hj', rfl⟩ := row_some hj
    exact hl.1 j hj') (by omega) (by unfold maxLen; omega) (by omega)
  have hXY : Ext X Y := ⟨h3.os, h3.tape, h3.output, h3.size, fun k hk => h3.block k hk (by simp)⟩
  refine ⟨v', Y, h1, GB.of hE ?_ hXY, hXY⟩
  unfold OwnB
  rw [row_append n m (yv f) (yv b) (yv (catF f n b)) (fun j hj => by simp only [yv]; unfold catF; rw [if_pos hj]) (fun j hj => by simp only [yv]; unfold catF; rw [if_neg (by omega), Nat.add_sub_cancel_left])] at h2
  exact h2
/-- cells stay -/
def Cel (X Y : World) : Prop := (∀ p v, X.cell? p = some v → Y.cell? p = some v) ∧ X.heap.size ≤ Y.heap.size
theorem cel_ext {X Y : World} (h : Ext X Y) : Cel X Y := ⟨fun _ _ hp => cell_ext' h hp, Below.size h⟩
theorem BV.cel {v : Value} {l : Nat} {f : Nat → BitVec 8} {X Y : World} (h : BV v l f X) (k : Cel X Y) : BV v l f Y := by
  rcases h with h | ⟨a, c, h1, h2, h3⟩
  · exact .inl h
  · exact .inr ⟨a, c, h1, h2, fun j hj => k.1 _ _ (h3.1 j hj), Nat.lt_of_lt_of_le h3.2 k.2⟩
/-- the run-time's mark on bytes of a text -/
theorem conv_any {w X : World} {g n : Nat} {C : Array Value} (h : X.heap[g]? = some (.cells C 5 (0, 0))) (hE : Ext w X) (hg : w.heap.size ≤ g) : ∃ Y, (convert 34 34 (.slice (some ⟨g, 0, none⟩) n n)).run Tryd.prog X = .ok (.slice (some ⟨g, 0, none⟩) n n) Y ∧ Cel X Y ∧ Ext w Y := by
  have hsh : X.shape? g = some (5, C.size) := by
    unfold World.shape?
    rw [h]
  refine ⟨X.freeze ⟨g, C.size, none⟩ 1, ?_, ⟨fun p v hp => ?_, ?_⟩, hE.os, hE.tape, hE.output, ?_, fun k hk => ?_⟩
  · simp [convert, run_underlying Tryd.underlying34, run_underlying Tryd.underlying5, markStringish, hsh]
  · rw [← hp]
    unfold World.freeze
    rw [if_neg (by decide)]
    by_cases e : p.block = g
    · simp only [World.cell?, e, Array.getElem?_modify, h]
      simp
    · simp only [World.cell?, Array.getElem?_modify]
      rw [if_neg (fun q => e q.symm)]
  · unfold World.freeze
    rw [if_neg (by decide)]
    simp
  · unfold World.freeze
    rw [if_neg (by decide)]
    simp
    exact Below.size hE
  · unfold World.freeze
    rw [if_neg (by decide)]
    simp only [Array.getElem?_modify]
    rw [if_neg (by omega)]
    exact hE.block k hk
theorem const_new (W : World) (C : Array Value) (n : Nat) (f : Nat → BitVec 8) (hC : ∀ j, j < n → C[j]? = some (yv f j)) : (W.alloc (.cells C 5)).heap[W.heap.size]? = some (.cells C 5 (0, 0)) ∧ BV (.slice (some ⟨W.heap.size, 0, none⟩) n n) n f (W.alloc (.cells C 5)) ∧ Ext W (W.alloc (.cells C 5)) := by
  obtain ⟨h1, h2⟩ := newB W C n f hC
  refine ⟨?_, h1, h2⟩
  show (W.heap.push (.cells C 5))[W.heap.size]? = _
  simp

set_option maxRecDepth 20000 in
set_option maxHeartbeats 4000000 in
theorem rdn_any (x : BitVec 64) (v : Value) (l : Nat) (f : Nat → BitVec 8) (w : World) (hv : BV v l f w) (hl : l ≤ 140737488351232) : Calls Tryd.prog 32 #[.int .u64 (x.toNat : Int), v] w fun e w' => ∃ u, e = .returned u ∧ GB w u 512 (sealF x f l) w' := by
  have ks := hideit (rsumV v l f w hv hl)
  obtain ⟨vo, vc, rfl⟩ := hv.form
  clear hv
  have hE := hideit (Ext.refl w)
  go_enter Tryd.func32, Tryd.ntmps32
  go_upto_region 1 with (fail)
  refine wp_region_lit ?_
  refine wpList_run rfl (.slice vo l vc) (by simp [go_sem]) ?_
  simp only [Act.put, List.setIfInBounds_toArray, List.set_cons_zero, List.set_cons_succ]
  refine wpList_call rfl (by simp [go_sem]) ((ks.out).mono ?_)
  rintro e y1 ⟨rfl, hX2⟩
  refine ⟨_, rfl, ?_⟩
  simp only [Act.put, List.setIfInBounds_toArray, List.set_cons_zero, List.set_cons_succ]
  replace hE := hideit (Ext.trans hE.out hX2)

  clear hX2
  have A0 := hideit (RowAt.new y1 32 (yv fun _ => 0#8) 74)
  have AE := hideit (Below.alloc hE.out (Below.size hE.out) (.cells (row 32 (yv fun _ => 0#8)).toArray 74))
  have AB := hideit (Below.size hE.out)
  refine wpList_to rfl (.pointer (some ⟨y1.heap.size, 0, none⟩)) (y1.alloc (.cells (row 32 (yv fun _ => 0#8)).toArray 74)) (xalloc 74 (row 32 (yv fun _ => 0#8)).toArray rfl (zero74 y1)) ?_
  simp only [Act.put, List.setIfInBounds_toArray, List.set_cons_zero, List.set_cons_succ]
  generalize y1.alloc (.cells (row 32 (yv fun _ => 0#8)).toArray 74) = x4 at A0 AE ⊢
  obtain ⟨z3, ez3⟩ : ∃ b, b = y1.heap.size := ⟨_, rfl⟩
  rw [← ez3] at A0  AB ⊢
  clear ez3
  have Hz3 := A0
  clear A0
  replace hE := AE
  clear AE
  have ABz3 := AB
  clear AB
  have N0 := hideit (Hz3.out.cells (g' := yv (shaF f l)))
  have NE := hideit (below_setCells z3 (ABz3.out) (row 32 (yv (shaF f l))) 0 _ hE.out)
  refine xst rfl (x4.setCells z3 0 (row 32 (yv (shaF f l)))) (xstore 74 (.tmp 5) (.tmp 7) rfl z3 32 _ (yv (shaF f l)) rfl rfl Hz3.out info74 (fun j _ => rfl)) ?_
  simp only [Act.put]
  generalize x4.setCells z3 0 (row 32 (yv (shaF f l))) = x5 at N0 NE ⊢
  replace Hz3 := N0
  replace hE := NE
  clear N0 NE 
  clear ks
  have hD := hideit ((bv_row Hz3.out).ext (Ext.draw (Ext.refl _)))
  have hS := hideit (Ext.draw hE.out)
  go_upto_region 2 with (fail)
  refine wp_region_held (S := fun X => Ext w X) (by kernel_rfl) ?_
  show wpAnyH _ _ _ _ _ 9 _ _ x5.drew
  generalize x5.drew = W0 at *
  refine wpAnyH_take (i := 2) (v := .int .u64 (x.toNat : Int)) rfl (by kernel_rfl) (by kernel_rfl) (by kernel_rfl) (fun _ _ _ h => h) (.inl ⟨rfl, fun X hX => by simp [go_sem]⟩) hS.out ?_
  simp only [List.getElem_toArray, List.getElem_cons_zero, List.getElem_cons_succ, Act.put, List.setIfInBounds_toArray, List.set_cons_zero, List.set_cons_succ]
  refine wpAnyH_take (i := 5) (v := .slice (some ⟨z3, 0, none⟩) 32 32) rfl (by kernel_rfl) (by kernel_rfl) (by kernel_rfl) (fun _ _ _ h => h) (.inl ⟨rfl, fun X hX => by have q := cut74 z3 X; simp [go_sem, q]⟩) hS.out ?_
  simp only [List.getElem_toArray, List.getElem_cons_zero, List.getElem_cons_succ, Act.put, List.setIfInBounds_toArray, List.set_cons_zero, List.set_cons_succ]
  refine wpAnyH_all (rs := [0, 3]) (by kernel_rfl) (by decide) ?_
  intro i hi
  rcases (by simpa using hi : i = 0 ∨ i = 3) with rfl | rfl
  · obtain ⟨hC0, hC1, hC2⟩ := const_new W0 #[.int .u8 68, .int .u8 79, .int .u8 78, .int .u8 69] 4 (labF sDN) (fun j hj => by rcases (by omega : j = 0 ∨ j = 1 ∨ j = 2 ∨ j = 3) with rfl | rfl | rfl | rfl <;> rfl)
    have hgw : Hid (w.heap.size ≤ W0.heap.size) := hideit (Below.size hS.out)
    replace hD := hideit (hD.out.cel (cel_ext hC2))
    replace hS := hideit (Ext.trans hS.out hC2)
    refine wpOp_to rfl rfl (.slice (some ⟨W0.heap.size, 0, none⟩) 4 4) (W0.alloc (.cells #[.int .u8 68, .int .u8 79, .int .u8 78, .int .u8 69] 5)) (by simp [go_sem]) ⟨hS.out, ?_⟩
    simp only [List.getElem_toArray, List.getElem_cons_zero, Act.put, List.setIfInBounds_toArray, List.set_cons_zero, List.set_cons_succ]
    clear hC2
    generalize W0.alloc (.cells #[.int .u8 68, .int .u8 79, .int .u8 78, .int .u8 69] 5) = W1 at *
    generalize W0.heap.size = cg at *
    replace hC1 := hideit hC1
    replace hC0 := hideit hC0
    refine wpAnyH_all (rs := [1, 3]) (by kernel_rfl) (by decide) ?_
    intro i hi
    rcases (by simpa using hi : i = 1 ∨ i = 3) with rfl | rfl
    · obtain ⟨W2, hcv, hcel, hcE⟩ := conv_any (n := 4) hC0.out hS.out hgw.out
      replace hD := hideit (hD.out.cel hcel)
      replace hC1 := hideit (hC1.out.cel hcel)
      replace hS := hideit hcE
      refine wpOp_to rfl rfl (.slice (some ⟨cg, 0, none⟩) 4 4) W2 (by simp [go_sem, hcv]) ⟨hS.out, ?_⟩
      simp only [List.getElem_toArray, List.getElem_cons_zero, List.getElem_cons_succ, Act.put, List.setIfInBounds_toArray, List.set_cons_zero, List.set_cons_succ]
      clear hcv hcel hcE hC0 hgw
      refine wpAnyH_all (rs := [3]) (by kernel_rfl) (by decide) ?_
      intro i hi
      obtain rfl : i = 3 := by simpa using hi
      refine wpOp_call rfl rfl (by simp [go_sem]) ((number_any 8 x W2 (by decide)).mono ?_)
      rintro e W3 ⟨nv, rfl, hN0, hX⟩
      have hN := hideit hN0.bv
      obtain ⟨no, nc, rfl⟩ := hN.out.form
      replace hD := hideit (hD.out.cel (cel_ext hX))
      replace hC1 := hideit (hC1.out.cel (cel_ext hX))
      replace hS := hideit (Ext.trans hS.out hX)
      refine ⟨_, rfl, hS.out, ?_⟩
      simp only [List.getElem_toArray, List.getElem_cons_zero, List.getElem_cons_succ, Act.put, List.setIfInBounds_toArray, List.set_cons_zero, List.set_cons_succ]
      clear hX hN0
      refine wpAnyH_all (rs := [4]) (by kernel_rfl) (by decide) ?_
      intro i hi
      obtain rfl : i = 4 := by simpa using hi
      obtain ⟨v5, W5, hr5, G5, hX5⟩ := run_gbC 34 hS.out ⟨cg, 0, none⟩ hC1.out (.slice no 8 nc) 8 (byB x) hN.out (by decide) (by decide)
      replace G5 : GB w v5 12 (begF sDN x) W5 := G5
      replace hD := hideit (hD.out.ext hX5)
      refine wpOp_to rfl rfl v5 W5 (exec_append (.tmp 9) (.tmp 11) 34 34 rfl _ _ _ rfl rfl hr5) ⟨G5.2, ?_⟩
      simp only [List.getElem_toArray, List.getElem_cons_zero, List.getElem_cons_succ, Act.put, List.setIfInBounds_toArray, List.set_cons_zero, List.set_cons_succ]
      clear hr5 hX5 hC1 hN hS
      refine wpAnyH_all (rs := [6]) (by kernel_rfl) (by decide) ?_
      intro i hi
      obtain rfl : i = 6 := by simpa using hi
      obtain ⟨v6, W6, hr6, G6⟩ := run_gb 34 G5 (.slice (some ⟨z3, 0, none⟩) 32 32) 32 (shaF f l) hD.out (by decide) (by decide)
      replace G6 : GB w v6 44 (catF (begF sDN x) 12 (shaF f l)) W6 := G6
      refine wpOp_to rfl rfl v6 W6 (exec_append (.tmp 12) (.tmp 13) 34 34 rfl _ _ _ rfl rfl hr6) ⟨G6.2, ?_⟩
      simp only [List.getElem_toArray, List.getElem_cons_zero, List.getElem_cons_succ, Act.put, List.setIfInBounds_toArray, List.set_cons_zero, List.set_cons_succ]
      clear hr6 hD G5
      refine wpAnyH_all (rs := [7]) (by kernel_rfl) (by decide) ?_
      intro i hi
      obtain rfl : i = 7 := by simpa using hi
      refine wpOp_call rfl rfl (by simp [go_sem]) ((rfill_any w.heap.size 44 v6 _ W6 G6.1 (by decide) (by decide) (Below.size G6.2)).mono ?_)
      rintro e W7 ⟨u, rfl, hO7, hX7⟩
      have hE7 : Hid (Ext w W7) := Below.trans G6.2 hX7
      refine ⟨_, rfl, hE7.out, ?_⟩
      simp only [List.getElem_toArray, List.getElem_cons_zero, List.getElem_cons_succ, Act.put, List.setIfInBounds_toArray, List.set_cons_zero, List.set_cons_succ]
      clear hX7 G6
      replace hO7 := hideit hO7
      refine wpAnyH_all (rs := [8]) (by kernel_rfl) (by decide) ?_
      intro i hi
      obtain rfl : i = 8 := by simpa using hi
      refine wpOp_to rfl rfl u W7 (by simp [go_sem]) ⟨hE7.out, ?_⟩
      simp only [List.getElem_toArray, List.getElem_cons_zero, List.getElem_cons_succ, Act.put, List.setIfInBounds_toArray, List.set_cons_zero, List.set_cons_succ]
      refine wpAnyH_done (by kernel_rfl) ?_ _
      go_wp2
      go_ret
      exact ⟨u, rfl, hO7.out, hE7.out⟩
    · refine wpOp_call rfl rfl (by simp [go_sem]) ((number_any 8 x W1 (by decide)).mono ?_)
      rintro e W2 ⟨nv, rfl, hN0, hX⟩
      have hN := hideit hN0.bv
      obtain ⟨no, nc, rfl⟩ := hN.out.form
      replace hD := hideit (hD.out.cel (cel_ext hX))
      replace hC1 := hideit (hC1.out.cel (cel_ext hX))
      replace hC0 := hideit ((hX.block _ (Array.getElem?_eq_some_iff.1 hC0.out).1).trans hC0.out)
      replace hS := hideit (Ext.trans hS.out hX)
      refine ⟨_, rfl, hS.out, ?_⟩
      simp only [List.getElem_toArray, List.getElem_cons_zero, List.getElem_cons_succ, Act.put, List.setIfInBounds_toArray, List.set_cons_zero, List.set_cons_succ]
      clear hX hN0
      refine wpAnyH_all (rs := [1]) (by kernel_rfl) (by decide) ?_
      intro i hi
      obtain rfl : i = 1 := by simpa using hi
      obtain ⟨W3, hcv, hcel, hcE⟩ := conv_any (n := 4) hC0.out hS.out hgw.out
      replace hD := hideit (hD.out.cel hcel)
      replace hC1 := hideit (hC1.out.cel hcel)
      replace hN := hideit (hN.out.cel hcel)
      replace hS := hideit hcE
      refine wpOp_to rfl rfl (.slice (some ⟨cg, 0, none⟩) 4 4) W3 (by simp [go_sem, hcv]) ⟨hS.out, ?_⟩
      simp only [List.getElem_toArray, List.getElem_cons_zero, List.getElem_cons_succ, Act.put, List.setIfInBounds_toArray, List.set_cons_zero, List.set_cons_succ]
      clear hcv hcel hcE hC0 hgw
      refine wpAnyH_all (rs := [4]) (by kernel_rfl) (by decide) ?_
      intro i hi
      obtain rfl : i = 4 := by simpa using hi
      obtain ⟨v5, W5, hr5, G5, hX5⟩ := run_gbC 34 hS.out ⟨cg, 0, none⟩ hC1.out (.slice no 8 nc) 8 (byB x) hN.out (by decide) (by decide)
      replace G5 : GB w v5 12 (begF sDN x) W5 := G5
      replace hD := hideit (hD.out.ext hX5)
      refine wpOp_to rfl rfl v5 W5 (exec_append (.tmp 9) (.tmp 11) 34 34 rfl _ _ _ rfl rfl hr5) ⟨G5.2, ?_⟩
      simp only [List.getElem_toArray, List.getElem_cons_zero, List.getElem_cons_succ, Act.put, List.setIfInBounds_toArray, List.set_cons_zero, List.set_cons_succ]
      clear hr5 hX5 hC1 hN hS
      refine wpAnyH_all (rs := [6]) (by kernel_rfl) (by decide) ?_
      intro i hi
      obtain rfl : i = 6 := by simpa using hi
      obtain ⟨v6, W6, hr6, G6⟩ := run_gb 34 G5 (.slice (some ⟨z3, 0, none⟩) 32 32) 32 (shaF f l) hD.out (by decide) (by decide)
      replace G6 : GB w v6 44 (catF (begF sDN x) 12 (shaF f l)) W6 := G6
      refine wpOp_to rfl rfl v6 W6 (exec_append (.tmp 12) (.tmp 13) 34 34 rfl _ _ _ rfl rfl hr6) ⟨G6.2, ?_⟩
      simp only [List.getElem_toArray, List.getElem_cons_zero, List.getElem_cons_succ, Act.put, List.setIfInBounds_toArray, List.set_cons_zero, List.set_cons_succ]
      clear hr6 hD G5
      refine wpAnyH_all (rs := [7]) (by kernel_rfl) (by decide) ?_
      intro i hi
      obtain rfl : i = 7 := by simpa using hi
      refine wpOp_call rfl rfl (by simp [go_sem]) ((rfill_any w.heap.size 44 v6 _ W6 G6.1 (by decide) (by decide) (Below.size G6.2)).mono ?_)
      rintro e W7 ⟨u, rfl, hO7, hX7⟩
      have hE7 : Hid (Ext w W7) := Below.trans G6.2 hX7
      refine ⟨_, rfl, hE7.out, ?_⟩
      simp only [List.getElem_toArray, List.getElem_cons_zero, List.getElem_cons_succ, Act.put, List.setIfInBounds_toArray, List.set_cons_zero, List.set_cons_succ]
      clear hX7 G6
      replace hO7 := hideit hO7
      refine wpAnyH_all (rs := [8]) (by kernel_rfl) (by decide) ?_
      intro i hi
      obtain rfl : i = 8 := by simpa using hi
      refine wpOp_to rfl rfl u W7 (by simp [go_sem]) ⟨hE7.out, ?_⟩
      simp only [List.getElem_toArray, List.getElem_cons_zero, List.getElem_cons_succ, Act.put, List.setIfInBounds_toArray, List.set_cons_zero, List.set_cons_succ]
      refine wpAnyH_done (by kernel_rfl) ?_ _
      go_wp2
      go_ret
      exact ⟨u, rfl, hO7.out, hE7.out⟩
  · refine wpOp_call rfl rfl (by simp [go_sem]) ((number_any 8 x W0 (by decide)).mono ?_)
    rintro e W1 ⟨nv, rfl, hN0, hX⟩
    have hN := hideit hN0.bv
    obtain ⟨no, nc, rfl⟩ := hN.out.form
    replace hD := hideit (hD.out.cel (cel_ext hX))
    replace hS := hideit (Ext.trans hS.out hX)
    refine ⟨_, rfl, hS.out, ?_⟩
    simp only [List.getElem_toArray, List.getElem_cons_zero, List.getElem_cons_succ, Act.put, List.setIfInBounds_toArray, List.set_cons_zero, List.set_cons_succ]
    clear hX hN0
    refine wpAnyH_all (rs := [0]) (by kernel_rfl) (by decide) ?_
    intro i hi
    obtain rfl : i = 0 := by simpa using hi
    obtain ⟨hC0, hC1, hC2⟩ := const_new W1 #[.int .u8 68, .int .u8 79, .int .u8 78, .int .u8 69] 4 (labF sDN) (fun j hj => by rcases (by omega : j = 0 ∨ j = 1 ∨ j = 2 ∨ j = 3) with rfl | rfl | rfl | rfl <;> rfl)
    have hgw : Hid (w.heap.size ≤ W1.heap.size) := hideit (Below.size hS.out)
    replace hD := hideit (hD.out.cel (cel_ext hC2))
    replace hN := hideit (hN.out.cel (cel_ext hC2))
    replace hS := hideit (Ext.trans hS.out hC2)
    refine wpOp_to rfl rfl (.slice (some ⟨W1.heap.size, 0, none⟩) 4 4) (W1.alloc (.cells #[.int .u8 68, .int .u8 79, .int .u8 78, .int .u8 69] 5)) (by simp [go_sem]) ⟨hS.out, ?_⟩
    simp only [List.getElem_toArray, List.getElem_cons_zero, Act.put, List.setIfInBounds_toArray, List.set_cons_zero, List.set_cons_succ]
    clear hC2
    generalize W1.alloc (.cells #[.int .u8 68, .int .u8 79, .int .u8 78, .int .u8 69] 5) = W2 at *
    generalize W1.heap.size = cg at *
    replace hC1 := hideit hC1
    replace hC0 := hideit hC0
    refine wpAnyH_all (rs := [1]) (by kernel_rfl) (by decide) ?_
    intro i hi
    obtain rfl : i = 1 := by simpa using hi
    obtain ⟨W3, hcv, hcel, hcE⟩ := conv_any (n := 4) hC0.out hS.out hgw.out
    replace hD := hideit (hD.out.cel hcel)
    replace hN := hideit (hN.out.cel hcel)
    replace hC1 := hideit (hC1.out.cel hcel)
    replace hS := hideit hcE
    refine wpOp_to rfl rfl (.slice (some ⟨cg, 0, none⟩) 4 4) W3 (by simp [go_sem, hcv]) ⟨hS.out, ?_⟩
    simp only [List.getElem_toArray, List.getElem_cons_zero, List.getElem_cons_succ, Act.put, List.setIfInBounds_toArray, List.set_cons_zero, List.set_cons_succ]
    clear hcv hcel hcE hC0 hgw
    refine wpAnyH_all (rs := [4]) (by kernel_rfl) (by decide) ?_
    intro i hi
    obtain rfl : i = 4 := by simpa using hi
    obtain ⟨v5, W5, hr5, G5, hX5⟩ := run_gbC 34 hS.out ⟨cg, 0, none⟩ hC1.out (.slice no 8 nc) 8 (byB x) hN.out (by decide) (by decide)
    replace G5 : GB w v5 12 (begF sDN x) W5 := G5
    replace hD := hideit (hD.out.ext hX5)
    refine wpOp_to rfl rfl v5 W5 (exec_append (.tmp 9) (.tmp 11) 34 34 rfl _ _ _ rfl rfl hr5) ⟨G5.2, ?_⟩
    simp only [List.getElem_toArray, List.getElem_cons_zero, List.getElem_cons_succ, Act.put, List.setIfInBounds_toArray, List.set_cons_zero, List.set_cons_succ]
    clear hr5 hX5 hC1 hN hS
    refine wpAnyH_all (rs := [6]) (by kernel_rfl) (by decide) ?_
    intro i hi
    obtain rfl : i = 6 := by simpa using hi
    obtain ⟨v6, W6, hr6, G6⟩ := run_gb 34 G5 (.slice (some ⟨z3, 0, none⟩) 32 32) 32 (shaF f l) hD.out (by decide) (by decide)
    replace G6 : GB w v6 44 (catF (begF sDN x) 12 (shaF f l)) W6 := G6
    refine wpOp_to rfl rfl v6 W6 (exec_append (.tmp 12) (.tmp 13) 34 34 rfl _ _ _ rfl rfl hr6) ⟨G6.2, ?_⟩
    simp only [List.getElem_toArray, List.getElem_cons_zero, List.getElem_cons_succ, Act.put, List.setIfInBounds_toArray, List.set_cons_zero, List.set_cons_succ]
    clear hr6 hD G5
    refine wpAnyH_all (rs := [7]) (by kernel_rfl) (by decide) ?_
    intro i hi
    obtain rfl : i = 7 := by simpa using hi
    refine wpOp_call rfl rfl (by simp [go_sem]) ((rfill_any w.heap.size 44 v6 _ W6 G6.1 (by decide) (by decide) (Below.size G6.2)).mono ?_)
    rintro e W7 ⟨u, rfl, hO7, hX7⟩
    have hE7 : Hid (Ext w W7) := Below.trans G6.2 hX7
    refine ⟨_, rfl, hE7.out, ?_⟩
    simp only [List.getElem_toArray, List.getElem_cons_zero, List.getElem_cons_succ, Act.put, List.setIfInBounds_toArray, List.set_cons_zero, List.set_cons_succ]
    clear hX7 G6
    replace hO7 := hideit hO7
    refine wpAnyH_all (rs := [8]) (by kernel_rfl) (by decide) ?_
    intro i hi
    obtain rfl : i = 8 := by simpa using hi
    refine wpOp_to rfl rfl u W7 (by simp [go_sem]) ⟨hE7.out, ?_⟩
    simp only [List.getElem_toArray, List.getElem_cons_zero, List.getElem_cons_succ, Act.put, List.setIfInBounds_toArray, List.set_cons_zero, List.set_cons_succ]
    refine wpAnyH_done (by kernel_rfl) ?_ _
    go_wp2
    go_ret
    exact ⟨u, rfl, hO7.out, hE7.out⟩
end Go.Proofs.YtedgopionpdfeaaDoor
