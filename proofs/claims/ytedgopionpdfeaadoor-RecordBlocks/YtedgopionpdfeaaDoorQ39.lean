/-
  Numbers of one's own that grow. Lists that are the same.
-/
import Derived.Test.YtedgopionpdfeaaDoorQ38
import Derived.Test.YtedgopionpdfeaaDoorQ37
namespace Go.Proofs.YtedgopionpdfeaaDoor
open Go.RowKit Go.BigFrame
set_option linter.unusedVariables false
/-- numbers of one's own since a world -/
def GI (w0 : World) (v : Value) (n : Nat) (g : Nat → Int) (X : World) : Prop := OwnB w0.heap.size 3 v n (fun j => .int .i64 (g j)) X ∧ Ext w0 X
theorem GI.ext {w0 : World} {v : Value} {n : Nat} {g : Nat → Int} {X Y : World} (h : GI w0 v n g X) (k : Ext X Y) : GI w0 v n g Y := ⟨h.1.ext k, Ext.trans h.2 k⟩
theorem GI.il {w0 : World} {v : Value} {n : Nat} {g : Nat → Int} {X : World} (h : GI w0 v n g X) (hk : ∀ j, j < n → okI (g j)) : IL v n g X := h.1.il hk
theorem GI.form {w0 : World} {v : Value} {n : Nat} {g : Nat → Int} {X : World} (h : GI w0 v n g X) (hk : ∀ j, j < n → okI (g j)) : ∃ o c, v = .slice o n c := (h.il hk).form
theorem GI.nil (w0 : World) {X : World} (h : Ext w0 X) (g : Nat → Int) : GI w0 (.slice none 0 0) 0 g X := ⟨own_nil _ _ _ _, h⟩
theorem wpList_gi {ops : Array Oper} {rest : List Oper} {o : Oper} {a : Act} {Q : Exit → Act → World → Prop} {w0 X : World} {v : Value} {n : Nat} {g : Nat → Int} (hgd : o.guard = none) (s x : Operand)
    (ho : o.op = .call { callee := .builtin .append, args := #[s, x], argTypes := #[36, 36] }) (hs : a.eval s = v) (hG : GI w0 v n g X) (b : Nat) (z : Int) (hx : a.eval x = .slice (some ⟨b, 0, none⟩) 1 1) (hb : RowAt b 1 (fun _ => .int .i64 z) X) (hz : z = g n) (hn : n ≤ 100000)
    (h : ∀ v' X', GI w0 v' (n + 1) g X' → wpList Tryd.prog ops Q rest (a.put o.dst v') X') : wpList Tryd.prog ops Q (o :: rest) a X := by
  refine wpList_growE (n := n) (base := w0.heap.size) elem36 hgd s x ho hs hG.1 ⟨b, 0, none⟩ 1 1 (fun _ => .int .i64 z) (fun j => .int .i64 (g j)) hx (RowAt.lie hb 1 (Nat.le_refl _)) (fun j hj => rfl) (fun j hj => rfl) (fun j hj => by rw [show n + j = n by omega, hz]) (by omega) (by omega) (Below.size hG.2) ?_
  intro v' X' hO hg
  exact h v' X' ⟨hO, Below.trans hG.2 (below_grown (Below.size hG.2) hg fun k hk => (hG.1.lt k hk).1)⟩
theorem res4 {fn : Func} {t u v x : Tmp} (h : fn.results = #[.tmp t, .tmp u, .tmp v, .tmp x]) (tmps : Array Value) (P : Program) (w : World) : (results fn tmps).run P w = .ok (.tuple #[tmps.getD t undef, tmps.getD u undef, tmps.getD v undef, tmps.getD x undef]) w := by
  simp [results, h]
end Go.Proofs.YtedgopionpdfeaaDoor
namespace Go.Proofs.YtedgopionpdfeaaDoor
open Go.RowKit Go.BigFrame
set_option linter.unusedVariables false
theorem convQ (v : Value) (l : Nat) (b : Nat → BitVec 8) (w : World) (h : PV v l b w) : (convert 34 9 v).run Tryd.prog w = .ok (.string (bS l b)) w := convP v l b w h
set_option maxRecDepth 20000 in
set_option maxHeartbeats 4000000 in
theorem sameb_any (v0 v1 : Value) (n : Nat) (us us' : Nat → Value) (ls : Nat → Nat) (fs : Nat → Nat → BitVec 8) (w : World) (hA : PL v0 n us ls fs w) (hB : PL v1 n us' ls fs w) (hn : n ≤ 5900000000000) : Calls Tryd.prog 11 #[v0, v1] w fun e w' => e = .returned (.bool true) ∧ Ext w w' := by
  obtain ⟨ao, ac, rfl⟩ := hA.form
  obtain ⟨bo, bc, rfl⟩ := hB.form
  replace hA := hideit hA
  replace hB := hideit hB
  replace hn := hideit hn
  have hE := hideit (Ext.refl w)
  go_enter Tryd.func11, Tryd.ntmps11
  go_upto_region 1 with (fail)
  refine wp_region_lit ?_
  refine wpList_run rfl (.slice ao n ac) (by simp [go_sem]) ?_
  simp only [Act.put, List.setIfInBounds_toArray, List.set_cons_zero, List.set_cons_succ]
  refine wpList_run rfl (.int .i64 (n : Int)) (by simp [go_sem]) ?_
  simp only [Act.put, List.setIfInBounds_toArray, List.set_cons_zero, List.set_cons_succ]
  refine wpList_run rfl (.slice bo n bc) (by simp [go_sem]) ?_
  simp only [Act.put, List.setIfInBounds_toArray, List.set_cons_zero, List.set_cons_succ]
  refine wpList_run rfl (.int .i64 (n : Int)) (by simp [go_sem]) ?_
  simp only [Act.put, List.setIfInBounds_toArray, List.set_cons_zero, List.set_cons_succ]
  refine wpList_run rfl (.bool false) (by simp [go_sem]) ?_
  simp only [Act.put, List.setIfInBounds_toArray, List.set_cons_zero, List.set_cons_succ]
  go_upto_region 3 with (fail)
  refine wp_region_lit ?_
  refine wpList_run rfl (.int .i64 0) (by simp [go_sem]) ?_
  simp only [Act.put, List.setIfInBounds_toArray, List.set_cons_zero, List.set_cons_succ]
  go_wp2
  go_loopw [5] (fun i X => ∃ k : Nat, k ≤ n ∧ i = .int .i64 (k : Int) ∧ Ext w X) (fun i _ => 6000000000000 - (intOf i).toNat)
  case atStart => exact ⟨0, Nat.zero_le _, rfl, Ext.refl _⟩
  case round =>
    obtain ⟨k, hk, rfl, hX⟩ := hrel
    clear hE
    by_cases hlt : k < n
    · have k1 : (k : Int) < (n : Int) := by omega
      have ek : IntKind.i64.wrap ((k : Int) + 1) = ((k + 1 : Nat) : Int) := by have := hn.out; rw [IntKind.wrap_i64]; omega
      obtain ⟨a, ha, _⟩ := hA.out.at k hlt
      obtain ⟨b, hb, _⟩ := hB.out.at k hlt
      have hL : Hid (∀ X, Ext wr.drew X → (X.cell? (a.add k) = some (us k) ∧ PV (us k) (ls k) (fs k) X) ∧ (X.cell? (b.add k) = some (us' k) ∧ PV (us' k) (ls k) (fs k) X)) := fun X hX' => by
        have hh := Ext.trans (Ext.draw hX) hX'
        have h1 := hA.out.ext hh
        have h2 := hB.out.ext hh
        obtain ⟨_, e1, q1⟩ := h1.at k hlt
        obtain ⟨_, e2, q2⟩ := h2.at k hlt
        rw [ha] at e1
        rw [hb] at e2
        injection e1 with e1
        injection e2 with e2
        subst e1
        subst e2
        exact ⟨⟨q1, h1.2 k hlt⟩, q2, h2.2 k hlt⟩
      subst ha
      subst hb
      replace hX := hideit hX
      replace hlt := hideit hlt
      go_upto_region 4 with (fail)
      refine wp_region_lit ?_
      refine wpList_run rfl (.int .i64 (k : Int)) (by simp [go_sem]) ?_
      simp only [Act.put, List.setIfInBounds_toArray, List.set_cons_zero, List.set_cons_succ]
      refine wpList_run rfl (.slice (some a) n ac) (by simp [go_sem]) ?_
      simp only [Act.put, List.setIfInBounds_toArray, List.set_cons_zero, List.set_cons_succ]
      refine wpList_run rfl (.int .i64 (n : Int)) (by simp [go_sem]) ?_
      simp only [Act.put, List.setIfInBounds_toArray, List.set_cons_zero, List.set_cons_succ]
      refine wpList_run rfl (.bool true) (by simp [go_sem, k1]) ?_
      simp only [Act.put, List.setIfInBounds_toArray, List.set_cons_zero, List.set_cons_succ]
      go_upto_region 6 with (fail)
      replace hX := hideit (Ext.draw hX.out)
      refine wp_region_lad (fun X => Ext wr.drew X) [(false, 0), (false, 1), (false, 2), (false, 3), (false, 4), (false, 5), (false, 6), (false, 7), (false, 8), (false, 9), (false, 10)] (by kernel_rfl) (by kernel_rfl) (by decide +kernel) (by decide +kernel) (by decide +kernel) (by decide +kernel) (Ext.refl _) ?_
      refine wpX_f _ (.slice (some a) n ac) rfl rfl (fun X _ => by simp [go_sem]) ?_
      simp only [List.getElem_toArray, List.getElem_cons_zero, Act.put, List.setIfInBounds_toArray, List.set_cons_zero, List.set_cons_succ]
      refine wpX_f _ (.int .i64 (k : Int)) rfl rfl (fun X _ => by simp [go_sem]) ?_
      simp only [List.getElem_toArray, List.getElem_cons_zero, List.getElem_cons_succ, Act.put, List.setIfInBounds_toArray, List.set_cons_zero, List.set_cons_succ]
      refine wpX_f _ (.pointer (some (a.add k))) rfl rfl (fun X _ => by simp [go_sem, k1]) ?_
      simp only [List.getElem_toArray, List.getElem_cons_zero, List.getElem_cons_succ, Act.put, List.setIfInBounds_toArray, List.set_cons_zero, List.set_cons_succ]
      refine wpX_f _ (us k) rfl rfl (fun X hX => (by have q := (hL.out X hX).1.1; simp [go_sem, q])) ?_
      simp only [List.getElem_toArray, List.getElem_cons_zero, List.getElem_cons_succ, Act.put, List.setIfInBounds_toArray, List.set_cons_zero, List.set_cons_succ]
      refine wpX_f _ (.string (bS (ls k) (fs k))) rfl rfl (fun X hX => (by have q := convQ _ _ _ X (hL.out X hX).1.2; simp [go_sem, q])) ?_
      simp only [List.getElem_toArray, List.getElem_cons_zero, List.getElem_cons_succ, Act.put, List.setIfInBounds_toArray, List.set_cons_zero, List.set_cons_succ]
      refine wpX_f _ (.slice (some b) n bc) rfl rfl (fun X _ => by simp [go_sem]) ?_
      simp only [List.getElem_toArray, List.getElem_cons_zero, List.getElem_cons_succ, Act.put, List.setIfInBounds_toArray, List.set_cons_zero, List.set_cons_succ]
      refine wpX_f _ (.int .i64 (k : Int)) rfl rfl (fun X _ => by simp [go_sem]) ?_
      simp only [List.getElem_toArray, List.getElem_cons_zero, List.getElem_cons_succ, Act.put, List.setIfInBounds_toArray, List.set_cons_zero, List.set_cons_succ]
      refine wpX_f _ (.pointer (some (b.add k))) rfl rfl (fun X _ => by simp [go_sem, k1]) ?_
      simp only [List.getElem_toArray, List.getElem_cons_zero, List.getElem_cons_succ, Act.put, List.setIfInBounds_toArray, List.set_cons_zero, List.set_cons_succ]
      refine wpX_f _ (us' k) rfl rfl (fun X hX => (by have q := (hL.out X hX).2.1; simp [go_sem, q])) ?_
      simp only [List.getElem_toArray, List.getElem_cons_zero, List.getElem_cons_succ, Act.put, List.setIfInBounds_toArray, List.set_cons_zero, List.set_cons_succ]
      refine wpX_f _ (.string (bS (ls k) (fs k))) rfl rfl (fun X hX => (by have q := convQ _ _ _ X (hL.out X hX).2.2; simp [go_sem, q])) ?_
      simp only [List.getElem_toArray, List.getElem_cons_zero, List.getElem_cons_succ, Act.put, List.setIfInBounds_toArray, List.set_cons_zero, List.set_cons_succ]
      refine wpX_f _ (.bool false) rfl rfl (fun X _ => by simp [go_sem]) ?_
      simp only [List.getElem_toArray, List.getElem_cons_zero, List.getElem_cons_succ, Act.put, List.setIfInBounds_toArray, List.set_cons_zero, List.set_cons_succ]
      refine wpX_nil ?_
      go_upto_region 5 with (fail)
      refine wp_region_lit ?_
      refine wpList_run rfl (.int .i64 (k : Int)) (by simp [go_sem]) ?_
      simp only [Act.put, List.setIfInBounds_toArray, List.set_cons_zero, List.set_cons_succ]
      refine wpList_run rfl (.int .i64 ((k + 1 : Nat) : Int)) (by simp [go_sem, ek]) ?_
      simp only [Act.put, List.setIfInBounds_toArray, List.set_cons_zero, List.set_cons_succ]
      refine wpList_run rfl (.int .i64 ((k + 1 : Nat) : Int)) (by simp [go_sem]) ?_
      simp only [Act.put, List.setIfInBounds_toArray, List.set_cons_zero, List.set_cons_succ]
      go_wp2
      refine ⟨⟨k + 1, by have := hlt.out; omega, rfl, hX.out⟩, by have := hlt.out; have := hn.out; simp [intOf]; omega⟩
    · obtain rfl : k = n := by omega
      have k1 : ¬ (k : Int) < (k : Int) := by omega
      replace hX := hideit hX
      go_upto_region 4 with (fail)
      refine wp_region_lit ?_
      refine wpList_run rfl (.int .i64 (k : Int)) (by simp [go_sem]) ?_
      simp only [Act.put, List.setIfInBounds_toArray, List.set_cons_zero, List.set_cons_succ]
      refine wpList_run rfl (.slice ao k ac) (by simp [go_sem]) ?_
      simp only [Act.put, List.setIfInBounds_toArray, List.set_cons_zero, List.set_cons_succ]
      refine wpList_run rfl (.int .i64 (k : Int)) (by simp [go_sem]) ?_
      simp only [Act.put, List.setIfInBounds_toArray, List.set_cons_zero, List.set_cons_succ]
      refine wpList_run rfl (.bool false) (by simp [go_sem, k1]) ?_
      simp only [Act.put, List.setIfInBounds_toArray, List.set_cons_zero, List.set_cons_succ]
      go_upto_region 8 with (fail)
      refine wp_region_lit ?_
      refine wpList_run rfl (.bool true) (by simp [go_sem]) ?_
      simp only [Act.put, List.setIfInBounds_toArray, List.set_cons_zero, List.set_cons_succ]
      go_wp2
      go_ret
      exact ⟨rfl, hX.out⟩
theorem add_one' (a : Addr) : a.add 1 = ⟨a.block, a.off + 1, none⟩ := by unfold Addr.add; simp
theorem add_zero' (a : Addr) : a.add 0 = a := by unfold Addr.add; simp
set_option maxRecDepth 20000 in
set_option maxHeartbeats 4000000 in
theorem samer_any (v0 v1 : Value) (n : Nat) (bs : Nat → Int) (us us' : Nat → Value) (ls : Nat → Nat) (fs : Nat → Nat → BitVec 8) (w : World) (hA : RLs v0 n bs us ls fs w) (hB : RLs v1 n bs us' ls fs w) (hn : n ≤ 5900000000000) : Calls Tryd.prog 13 #[v0, v1] w fun e w' => e = .returned (.bool true) ∧ Ext w w' := by
  obtain ⟨ao, ac, rfl⟩ := hA.form
  obtain ⟨bo, bc, rfl⟩ := hB.form
  replace hA := hideit hA
  replace hB := hideit hB
  replace hn := hideit hn
  have hE := hideit (Ext.refl w)
  go_enter Tryd.func13, Tryd.ntmps13
  go_upto_region 1 with (fail)
  refine wp_region_lit ?_
  refine wpList_run rfl (.slice ao n ac) (by simp [go_sem]) ?_
  simp only [Act.put, List.setIfInBounds_toArray, List.set_cons_zero, List.set_cons_succ]
  refine wpList_run rfl (.int .i64 (n : Int)) (by simp [go_sem]) ?_
  simp only [Act.put, List.setIfInBounds_toArray, List.set_cons_zero, List.set_cons_succ]
  refine wpList_run rfl (.slice bo n bc) (by simp [go_sem]) ?_
  simp only [Act.put, List.setIfInBounds_toArray, List.set_cons_zero, List.set_cons_succ]
  refine wpList_run rfl (.int .i64 (n : Int)) (by simp [go_sem]) ?_
  simp only [Act.put, List.setIfInBounds_toArray, List.set_cons_zero, List.set_cons_succ]
  refine wpList_run rfl (.bool false) (by simp [go_sem]) ?_
  simp only [Act.put, List.setIfInBounds_toArray, List.set_cons_zero, List.set_cons_succ]
  go_upto_region 3 with (fail)
  refine wp_region_lit ?_
  refine wpList_run rfl (.int .i64 0) (by simp [go_sem]) ?_
  simp only [Act.put, List.setIfInBounds_toArray, List.set_cons_zero, List.set_cons_succ]
  go_wp2
  go_loopw [5] (fun i X => ∃ k : Nat, k ≤ n ∧ i = .int .i64 (k : Int) ∧ Ext w X) (fun i _ => 6000000000000 - (intOf i).toNat)
  case atStart => exact ⟨0, Nat.zero_le _, rfl, Ext.refl _⟩
  case round =>
    obtain ⟨k, hk, rfl, hX⟩ := hrel
    clear hE
    by_cases hlt : k < n
    · have k1 : (k : Int) < (n : Int) := by omega
      have ek : IntKind.i64.wrap ((k : Int) + 1) = ((k + 1 : Nat) : Int) := by have := hn.out; rw [IntKind.wrap_i64]; omega
      obtain ⟨a, ha, _⟩ := hA.out.at k hlt
      obtain ⟨b, hb, _⟩ := hB.out.at k hlt
      have hL : Hid (∀ X, Ext wr.drew X → (X.cell? (a.add (k * 2)) = some (.int .i64 (bs k)) ∧ X.cell? ⟨(a.add (k * 2)).block, (a.add (k * 2)).off + 1, none⟩ = some (us k) ∧ PV (us k) (ls k) (fs k) X) ∧ (X.cell? (b.add (k * 2)) = some (.int .i64 (bs k)) ∧ X.cell? ⟨(b.add (k * 2)).block, (b.add (k * 2)).off + 1, none⟩ = some (us' k) ∧ PV (us' k) (ls k) (fs k) X)) := fun X hX' => by
        have hh := Ext.trans (Ext.draw hX) hX'
        have h1 := hA.out.ext hh
        have h2 := hB.out.ext hh
        obtain ⟨_, e1, q1⟩ := h1.at k hlt
        obtain ⟨_, e2, q2⟩ := h2.at k hlt
        rw [ha] at e1
        rw [hb] at e2
        injection e1 with e1
        injection e2 with e2
        subst e1
        subst e2
        exact ⟨⟨by have := q1.1 0 (by decide); rwa [add_zero'] at this, by have := q1.1 1 (by decide); rwa [add_one'] at this, (h1.2 k hlt).1⟩, by have := q2.1 0 (by decide); rwa [add_zero'] at this, by have := q2.1 1 (by decide); rwa [add_one'] at this, (h2.2 k hlt).1⟩
      subst ha
      subst hb
      replace hX := hideit hX
      replace hlt := hideit hlt
      go_upto_region 4 with (fail)
      refine wp_region_lit ?_
      refine wpList_run rfl (.int .i64 (k : Int)) (by simp [go_sem]) ?_
      simp only [Act.put, List.setIfInBounds_toArray, List.set_cons_zero, List.set_cons_succ]
      refine wpList_run rfl (.slice (some a) n ac) (by simp [go_sem]) ?_
      simp only [Act.put, List.setIfInBounds_toArray, List.set_cons_zero, List.set_cons_succ]
      refine wpList_run rfl (.int .i64 (n : Int)) (by simp [go_sem]) ?_
      simp only [Act.put, List.setIfInBounds_toArray, List.set_cons_zero, List.set_cons_succ]
      refine wpList_run rfl (.bool true) (by simp [go_sem, k1]) ?_
      simp only [Act.put, List.setIfInBounds_toArray, List.set_cons_zero, List.set_cons_succ]
      go_upto_region 6 with (fail)
      replace hX := hideit (Ext.draw hX.out)
      refine wp_region_lad (fun X => Ext wr.drew X) [(false, 0), (false, 1), (false, 2), (false, 3), (false, 4), (false, 5), (false, 6), (false, 7), (false, 8), (false, 9), (false, 10), (false, 11), (false, 12), (false, 13), (false, 14), (false, 15), (false, 16), (false, 17), (false, 18), (false, 19), (false, 20), (false, 21), (false, 22), (false, 23), (false, 24), (false, 25)] (by kernel_rfl) (by kernel_rfl) (by decide +kernel) (by decide +kernel) (by decide +kernel) (by decide +kernel) (Ext.refl _) ?_
      refine wpX_f _ (.slice (some a) n ac) rfl rfl (fun X _ => by simp [go_sem]) ?_
      simp only [List.getElem_toArray, List.getElem_cons_zero, Act.put, List.setIfInBounds_toArray, List.set_cons_zero, List.set_cons_succ]
      refine wpX_f _ (.int .i64 (k : Int)) rfl rfl (fun X _ => by simp [go_sem]) ?_
      simp only [List.getElem_toArray, List.getElem_cons_zero, List.getElem_cons_succ, Act.put, List.setIfInBounds_toArray, List.set_cons_zero, List.set_cons_succ]
      refine wpX_f _ (.pointer (some (a.add (k * 2)))) rfl rfl (fun X _ => by simp [go_sem, k1]) ?_
      simp only [List.getElem_toArray, List.getElem_cons_zero, List.getElem_cons_succ, Act.put, List.setIfInBounds_toArray, List.set_cons_zero, List.set_cons_succ]
      refine wpX_f _ (.pointer (some (a.add (k * 2)))) rfl rfl (fun X _ => by simp [go_sem]) ?_
      simp only [List.getElem_toArray, List.getElem_cons_zero, List.getElem_cons_succ, Act.put, List.setIfInBounds_toArray, List.set_cons_zero, List.set_cons_succ]
      refine wpX_f _ (.int .i64 (bs k)) rfl rfl (fun X hX => (by have q := (hL.out X hX).1.1; simp [go_sem, q])) ?_
      simp only [List.getElem_toArray, List.getElem_cons_zero, List.getElem_cons_succ, Act.put, List.setIfInBounds_toArray, List.set_cons_zero, List.set_cons_succ]
      refine wpX_f _ (.slice (some b) n bc) rfl rfl (fun X _ => by simp [go_sem]) ?_
      simp only [List.getElem_toArray, List.getElem_cons_zero, List.getElem_cons_succ, Act.put, List.setIfInBounds_toArray, List.set_cons_zero, List.set_cons_succ]
      refine wpX_f _ (.int .i64 (k : Int)) rfl rfl (fun X _ => by simp [go_sem]) ?_
      simp only [List.getElem_toArray, List.getElem_cons_zero, List.getElem_cons_succ, Act.put, List.setIfInBounds_toArray, List.set_cons_zero, List.set_cons_succ]
      refine wpX_f _ (.pointer (some (b.add (k * 2)))) rfl rfl (fun X _ => by simp [go_sem, k1]) ?_
      simp only [List.getElem_toArray, List.getElem_cons_zero, List.getElem_cons_succ, Act.put, List.setIfInBounds_toArray, List.set_cons_zero, List.set_cons_succ]
      refine wpX_f _ (.pointer (some (b.add (k * 2)))) rfl rfl (fun X _ => by simp [go_sem]) ?_
      simp only [List.getElem_toArray, List.getElem_cons_zero, List.getElem_cons_succ, Act.put, List.setIfInBounds_toArray, List.set_cons_zero, List.set_cons_succ]
      refine wpX_f _ (.int .i64 (bs k)) rfl rfl (fun X hX => (by have q := (hL.out X hX).2.1; simp [go_sem, q])) ?_
      simp only [List.getElem_toArray, List.getElem_cons_zero, List.getElem_cons_succ, Act.put, List.setIfInBounds_toArray, List.set_cons_zero, List.set_cons_succ]
      refine wpX_f _ (.bool false) rfl rfl (fun X _ => by simp [go_sem]) ?_
      simp only [List.getElem_toArray, List.getElem_cons_zero, List.getElem_cons_succ, Act.put, List.setIfInBounds_toArray, List.set_cons_zero, List.set_cons_succ]
      refine wpX_f _ (.bool false) rfl rfl (fun X _ => by simp [go_sem]) ?_
      simp only [List.getElem_toArray, List.getElem_cons_zero, List.getElem_cons_succ, Act.put, List.setIfInBounds_toArray, List.set_cons_zero, List.set_cons_succ]
      refine wpX_f _ (.slice (some a) n ac) rfl rfl (fun X _ => by simp [go_sem]) ?_
      simp only [List.getElem_toArray, List.getElem_cons_zero, List.getElem_cons_succ, Act.put, List.setIfInBounds_toArray, List.set_cons_zero, List.set_cons_succ]
      refine wpX_f _ (.int .i64 (k : Int)) rfl rfl (fun X _ => by simp [go_sem]) ?_
      simp only [List.getElem_toArray, List.getElem_cons_zero, List.getElem_cons_succ, Act.put, List.setIfInBounds_toArray, List.set_cons_zero, List.set_cons_succ]
      refine wpX_f _ (.pointer (some (a.add (k * 2)))) rfl rfl (fun X _ => by simp [go_sem, k1]) ?_
      simp only [List.getElem_toArray, List.getElem_cons_zero, List.getElem_cons_succ, Act.put, List.setIfInBounds_toArray, List.set_cons_zero, List.set_cons_succ]
      refine wpX_f _ (.pointer (some ⟨(a.add (k * 2)).block, (a.add (k * 2)).off + 1, none⟩)) rfl rfl (fun X _ => by simp [go_sem]) ?_
      simp only [List.getElem_toArray, List.getElem_cons_zero, List.getElem_cons_succ, Act.put, List.setIfInBounds_toArray, List.set_cons_zero, List.set_cons_succ]
      refine wpX_f _ (us k) rfl rfl (fun X hX => (by have q := (hL.out X hX).1.2.1; simp [go_sem, q])) ?_
      simp only [List.getElem_toArray, List.getElem_cons_zero, List.getElem_cons_succ, Act.put, List.setIfInBounds_toArray, List.set_cons_zero, List.set_cons_succ]
      refine wpX_f _ (.string (bS (ls k) (fs k))) rfl rfl (fun X hX => (by have q := convQ _ _ _ X (hL.out X hX).1.2.2; simp [go_sem, q])) ?_
      simp only [List.getElem_toArray, List.getElem_cons_zero, List.getElem_cons_succ, Act.put, List.setIfInBounds_toArray, List.set_cons_zero, List.set_cons_succ]
      refine wpX_f _ (.slice (some b) n bc) rfl rfl (fun X _ => by simp [go_sem]) ?_
      simp only [List.getElem_toArray, List.getElem_cons_zero, List.getElem_cons_succ, Act.put, List.setIfInBounds_toArray, List.set_cons_zero, List.set_cons_succ]
      refine wpX_f _ (.int .i64 (k : Int)) rfl rfl (fun X _ => by simp [go_sem]) ?_
      simp only [List.getElem_toArray, List.getElem_cons_zero, List.getElem_cons_succ, Act.put, List.setIfInBounds_toArray, List.set_cons_zero, List.set_cons_succ]
      refine wpX_f _ (.pointer (some (b.add (k * 2)))) rfl rfl (fun X _ => by simp [go_sem, k1]) ?_
      simp only [List.getElem_toArray, List.getElem_cons_zero, List.getElem_cons_succ, Act.put, List.setIfInBounds_toArray, List.set_cons_zero, List.set_cons_succ]
      refine wpX_f _ (.pointer (some ⟨(b.add (k * 2)).block, (b.add (k * 2)).off + 1, none⟩)) rfl rfl (fun X _ => by simp [go_sem]) ?_
      simp only [List.getElem_toArray, List.getElem_cons_zero, List.getElem_cons_succ, Act.put, List.setIfInBounds_toArray, List.set_cons_zero, List.set_cons_succ]
      refine wpX_f _ (us' k) rfl rfl (fun X hX => (by have q := (hL.out X hX).2.2.1; simp [go_sem, q])) ?_
      simp only [List.getElem_toArray, List.getElem_cons_zero, List.getElem_cons_succ, Act.put, List.setIfInBounds_toArray, List.set_cons_zero, List.set_cons_succ]
      refine wpX_f _ (.string (bS (ls k) (fs k))) rfl rfl (fun X hX => (by have q := convQ _ _ _ X (hL.out X hX).2.2.2; simp [go_sem, q])) ?_
      simp only [List.getElem_toArray, List.getElem_cons_zero, List.getElem_cons_succ, Act.put, List.setIfInBounds_toArray, List.set_cons_zero, List.set_cons_succ]
      refine wpX_f _ (.bool false) rfl rfl (fun X _ => by simp [go_sem]) ?_
      simp only [List.getElem_toArray, List.getElem_cons_zero, List.getElem_cons_succ, Act.put, List.setIfInBounds_toArray, List.set_cons_zero, List.set_cons_succ]
      refine wpX_f _ (.bool false) rfl rfl (fun X _ => by simp [go_sem]) ?_
      simp only [List.getElem_toArray, List.getElem_cons_zero, List.getElem_cons_succ, Act.put, List.setIfInBounds_toArray, List.set_cons_zero, List.set_cons_succ]
      refine wpX_nil ?_
      go_upto_region 5 with (fail)
      refine wp_region_lit ?_
      refine wpList_run rfl (.int .i64 (k : Int)) (by simp [go_sem]) ?_
      simp only [Act.put, List.setIfInBounds_toArray, List.set_cons_zero, List.set_cons_succ]
      refine wpList_run rfl (.int .i64 ((k + 1 : Nat) : Int)) (by simp [go_sem, ek]) ?_
      simp only [Act.put, List.setIfInBounds_toArray, List.set_cons_zero, List.set_cons_succ]
      refine wpList_run rfl (.int .i64 ((k + 1 : Nat) : Int)) (by simp [go_sem]) ?_
      simp only [Act.put, List.setIfInBounds_toArray, List.set_cons_zero, List.set_cons_succ]
      go_wp2
      refine ⟨⟨k + 1, by have := hlt.out; omega, rfl, hX.out⟩, by have := hlt.out; have := hn.out; simp [intOf]; omega⟩
    · obtain rfl : k = n := by omega
      have k1 : ¬ (k : Int) < (k : Int) := by omega
      replace hX := hideit hX
      go_upto_region 4 with (fail)
      refine wp_region_lit ?_
      refine wpList_run rfl (.int .i64 (k : Int)) (by simp [go_sem]) ?_
      simp only [Act.put, List.setIfInBounds_toArray, List.set_cons_zero, List.set_cons_succ]
      refine wpList_run rfl (.slice ao k ac) (by simp [go_sem]) ?_
      simp only [Act.put, List.setIfInBounds_toArray, List.set_cons_zero, List.set_cons_succ]
      refine wpList_run rfl (.int .i64 (k : Int)) (by simp [go_sem]) ?_
      simp only [Act.put, List.setIfInBounds_toArray, List.set_cons_zero, List.set_cons_succ]
      refine wpList_run rfl (.bool false) (by simp [go_sem, k1]) ?_
      simp only [Act.put, List.setIfInBounds_toArray, List.set_cons_zero, List.set_cons_succ]
      go_upto_region 8 with (fail)
      refine wp_region_lit ?_
      refine wpList_run rfl (.bool true) (by simp [go_sem]) ?_
      simp only [Act.put, List.setIfInBounds_toArray, List.set_cons_zero, List.set_cons_succ]
      go_wp2
      go_ret
      exact ⟨rfl, hX.out⟩
end Go.Proofs.YtedgopionpdfeaaDoor
