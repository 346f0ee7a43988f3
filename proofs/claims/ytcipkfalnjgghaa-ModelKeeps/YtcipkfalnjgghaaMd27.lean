/-
  sameInts.
-/
import Derived.Test.YtcipkfalnjgghaaMd26
namespace Go.Proofs.Ytcipkfalnjgghaa
open Go.RowKit Go.BigFrame Go.Maps
set_option linter.unusedVariables false
/-- so many whole numbers -/
def LI (v : Value) (n : Nat) (b : Nat → Int) (w : World) : Prop := (v = .slice none 0 0 ∧ n = 0) ∨ ∃ a cap, v = .slice (some a) n cap ∧ LieAt a n (fun j => .int .i64 (b j)) w
theorem LI.ext {v : Value} {n : Nat} {b : Nat → Int} {w X : World} (h : LI v n b w) (k : Ext w X) : LI v n b X := by
  rcases h with h | ⟨a, cap, h1, h2⟩
  · exact .inl h
  · exact .inr ⟨a, cap, h1, h2.carry k⟩
theorem LI.form {v : Value} {n : Nat} {b : Nat → Int} {w : World} (h : LI v n b w) : ∃ o c, v = .slice o n c := by
  rcases h with ⟨h, e⟩ | ⟨a, cap, h1, _⟩
  · subst e; exact ⟨none, 0, h⟩
  · exact ⟨some a, cap, h1⟩
theorem OwnB.li {base : Nat} {v : Value} {n : Nat} {b : Nat → Int} {w : World} (h : OwnB base 3 v n (fun j => .int .i64 (b j)) w) : LI v n b w := by
  rcases h.2 with ⟨h1, h2⟩ | ⟨g, cap, cur, h1, _⟩
  · exact .inl ⟨h1, h2⟩
  · by_cases e : 0 < n
    · obtain ⟨b', cap', e1, _, _, _, hR⟩ := h.lies e
      refine .inr ⟨⟨b', 0, none⟩, cap', e1, ⟨fun j hj => ?_, hR.2.2⟩⟩
      have := hR.1 j hj
      rw [addr0]
      exact this
    · have e0 : n = 0 := by omega
      subst e0
      exact .inr ⟨⟨g, 0, none⟩, cap, h1, ⟨fun j hj => absurd hj (by omega), (h.lt g (by rw [h1]; rfl)).2⟩⟩
theorem xloadI {P : Program} {o : Oper} {a : Act} {w : World} (t : TypeId) (x : Operand) (ho : o.op = .load t x) (ad : Addr) (b : Int) (hx : a.eval x = .pointer (some ad)) (h : w.cell? ad = some (.int .i64 b)) (hg : ∀ w, (isAgg t).run P w = .ok false w) : (execOp a.eval o).run P w = .ok (.value (.int .i64 b)) w := by
  generalize a.eval = ρ at hx ⊢
  unfold execOp
  simp [ho, hx, Instr.loadAt, Instr.sureAddr, loadVar, hg, h, go_sem]
set_option maxRecDepth 20000 in
set_option maxHeartbeats 4000000 in
theorem same_ints (o1 o2 : Option Addr) (n k1 k2 : Nat) (b : Nat → Int) (w : World) (hL1 : LI (.slice o1 n k1) n b w) (hL2 : LI (.slice o2 n k2) n b w) (hn : n ≤ 9007199254740992) : Calls Try.prog 22 #[.slice o1 n k1, .slice o2 n k2] w fun e w' => e = .returned (.bool true) ∧ Ext w w' := by
  have hE := hideit (Ext.refl w)
  replace hL1 := hideit hL1
  replace hL2 := hideit hL2
  replace hn := hideit hn
  go_enter Try.func22, Try.ntmps22
  go_upto_region 1 with (fail)
  refine wp_region_lit ?_
  refine xm [some (.slice o1 n k1), some (.int .i64 (n : Int)), some (.slice o2 n k2), some (.int .i64 (n : Int)), some (.bool false)] (by kernel_rfl) (by simp [xr, go_sem]) ?_
  simp only [xw, p0, p1, p2, p3]
  go_upto_region 3 with (fail)
  refine wp_region_lit ?_
  refine xm [some (.int .i64 0)] (by kernel_rfl) (by simp [xr, go_sem]) ?_
  simp only [xw, p0, p1, p2, p3]
  go_wp2
  go_loopw [5] (fun t X => ∃ i : Nat, i ≤ n ∧ t = .int .i64 (i : Int) ∧ LI (.slice o1 n k1) n b X ∧ LI (.slice o2 n k2) n b X ∧ Ext w X) (fun t _ => n - (intOf t).toNat)
  case atStart => exact ⟨0, Nat.zero_le _, rfl, hL1.out, hL2.out, hE.out⟩
  case round =>
    obtain ⟨i, hin, rfl, rL1, rL2, rE⟩ := hrel
    clear hE hL1 hL2
    replace rL1 := hideit rL1
    replace rL2 := hideit rL2
    replace rE := hideit rE
    by_cases hi2 : i < n
    · have hi := hideit hi2
      have ek : IntKind.i64.wrap ((i : Int) + 1) = ((i + 1 : Nat) : Int) := by have := hn.out; rw [IntKind.wrap_i64]; omega
      obtain ⟨a1, rfl⟩ : ∃ a, o1 = some a := by
        rcases rL1.out with ⟨_, h0⟩ | ⟨a, c, h1, _⟩
        · omega
        · injection h1 with h1; exact ⟨a, h1⟩
      obtain ⟨a2, rfl⟩ : ∃ a, o2 = some a := by
        rcases rL2.out with ⟨_, h0⟩ | ⟨a, c, h1, _⟩
        · omega
        · injection h1 with h1; exact ⟨a, h1⟩
      have hcell1 : Hid (∀ X, Ext wr.drew X → X.cell? (a1.add i) = some (.int .i64 (b i))) := fun X hX => by
        rcases rL1.out with ⟨h0, _⟩ | ⟨a, c, h1, h2⟩
        · cases h0
        · injection h1 with h1; injection h1 with h1; subst h1; exact (h2.carry (Ext.trans (Ext.draw (Ext.refl wr)) hX)).1 i hi.out
      have hcell2 : Hid (∀ X, Ext wr.drew X → X.cell? (a2.add i) = some (.int .i64 (b i))) := fun X hX => by
        rcases rL2.out with ⟨h0, _⟩ | ⟨a, c, h1, h2⟩
        · cases h0
        · injection h1 with h1; injection h1 with h1; subst h1; exact (h2.carry (Ext.trans (Ext.draw (Ext.refl wr)) hX)).1 i hi.out
      clear hi2 hin
      go_upto_region 4 with (fail)
      refine wp_region_lit ?_
      refine xm [some (.int .i64 (i : Int)), some (.slice (some a1) n k1), some (.int .i64 (n : Int)), some (.bool true)] (by kernel_rfl) (by simp [xr, go_sem, hi.out]) ?_
      simp only [xw, p0, p1, p2, p3]
      go_upto_region 6 with (fail)
      replace rL1 := hideit (rL1.out.ext (Ext.draw (Ext.refl wr)))
      replace rL2 := hideit (rL2.out.ext (Ext.draw (Ext.refl wr)))
      replace rE := hideit (Ext.draw rE.out)
      refine wp_region_lad (fun X => Ext wr.drew X) [(false, 0), (false, 1), (false, 2), (false, 3), (false, 4), (false, 5), (false, 6), (false, 7), (false, 8)] (by kernel_rfl) (by kernel_rfl) (by decide +kernel) (by decide +kernel) (by decide +kernel) (by decide +kernel) (Ext.refl _) ?_
      refine wpX_f _ (.slice (some a1) n k1) rfl rfl (fun X _ => by simp [go_sem]) ?_
      simp only [List.getElem_toArray, List.getElem_cons_zero, Act.put, List.setIfInBounds_toArray, List.set_cons_zero, List.set_cons_succ]
      refine wpX_f _ (.int .i64 (i : Int)) rfl rfl (fun X _ => by simp [go_sem]) ?_
      simp only [List.getElem_toArray, List.getElem_cons_zero, List.getElem_cons_succ, Act.put, List.setIfInBounds_toArray, List.set_cons_zero, List.set_cons_succ]
      refine wpX_f _ (.pointer (some (a1.add i))) rfl rfl (fun X _ => by simp [go_sem, hi.out]) ?_
      simp only [List.getElem_toArray, List.getElem_cons_zero, List.getElem_cons_succ, Act.put, List.setIfInBounds_toArray, List.set_cons_zero, List.set_cons_succ]
      refine wpX_f _ (.int .i64 (b i)) rfl rfl (fun X hX => xloadI 3 (.tmp 19) rfl (a1.add i) (b i) rfl (hcell1.out X hX) Try.isAgg3) ?_
      simp only [List.getElem_toArray, List.getElem_cons_zero, List.getElem_cons_succ, Act.put, List.setIfInBounds_toArray, List.set_cons_zero, List.set_cons_succ]
      refine wpX_f _ (.slice (some a2) n k2) rfl rfl (fun X _ => by simp [go_sem]) ?_
      simp only [List.getElem_toArray, List.getElem_cons_zero, List.getElem_cons_succ, Act.put, List.setIfInBounds_toArray, List.set_cons_zero, List.set_cons_succ]
      refine wpX_f _ (.int .i64 (i : Int)) rfl rfl (fun X _ => by simp [go_sem]) ?_
      simp only [List.getElem_toArray, List.getElem_cons_zero, List.getElem_cons_succ, Act.put, List.setIfInBounds_toArray, List.set_cons_zero, List.set_cons_succ]
      refine wpX_f _ (.pointer (some (a2.add i))) rfl rfl (fun X _ => by simp [go_sem, hi.out]) ?_
      simp only [List.getElem_toArray, List.getElem_cons_zero, List.getElem_cons_succ, Act.put, List.setIfInBounds_toArray, List.set_cons_zero, List.set_cons_succ]
      refine wpX_f _ (.int .i64 (b i)) rfl rfl (fun X hX => xloadI 3 (.tmp 23) rfl (a2.add i) (b i) rfl (hcell2.out X hX) Try.isAgg3) ?_
      simp only [List.getElem_toArray, List.getElem_cons_zero, List.getElem_cons_succ, Act.put, List.setIfInBounds_toArray, List.set_cons_zero, List.set_cons_succ]
      refine wpX_f _ (.bool false) rfl rfl (fun X _ => by simp [go_sem]) ?_
      simp only [List.getElem_toArray, List.getElem_cons_zero, List.getElem_cons_succ, Act.put, List.setIfInBounds_toArray, List.set_cons_zero, List.set_cons_succ]
      refine wpX_nil ?_
      go_upto_region 5 with (fail)
      refine wp_region_lit ?_
      refine xm [some (.int .i64 (i : Int)), some (.int .i64 ((i + 1 : Nat) : Int)), some (.int .i64 ((i + 1 : Nat) : Int))] (by kernel_rfl) (by simp [xr, go_sem, ek]) ?_
      simp only [xw, p0, p1, p2, p3]
      go_wp2
      go_round
      case rel => exact ⟨i + 1, by have := hi.out; omega, rfl, rL1.out, rL2.out, rE.out⟩
      case measure => have := hi.out; simp [intOf]; omega
    · have hi := hideit hi2
      clear hi2 hin
      go_upto_region 4 with (fail)
      refine wp_region_lit ?_
      refine xm [some (.int .i64 (i : Int)), some (.slice o1 n k1), some (.int .i64 (n : Int)), some (.bool false)] (by kernel_rfl) (by simp [xr, go_sem, hi.out]) ?_
      simp only [xw, p0, p1, p2, p3]
      go_upto_region 8 with (fail)
      refine wp_region_lit ?_
      refine xm [some (.bool true)] (by kernel_rfl) (by simp [xr, go_sem]) ?_
      simp only [xw, p0, p1, p2, p3]
      go_wp2
      go_ret
      exact ⟨rfl, rE.out⟩
end Go.Proofs.Ytcipkfalnjgghaa
