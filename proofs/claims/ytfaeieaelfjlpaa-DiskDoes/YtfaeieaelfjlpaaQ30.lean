/-
  The document's Crash, of what may be kept. The document's Crash, of what may be kept: the walk.
-/
import Derived.Test.YtfaeieaelfjlpaaQ27
namespace Go.Proofs.Ytfaeieaelfjlpaa
open Go.RowKit Go.BigFrame Go.Maps
section
variable {F G : Nat → Prop} {x : Nat} {s : DSt} {stp : Bool} {cl : Int} {R : RM} {W Y : World} {kb kw : Nat → Int}
/-- the list of one block, as it lies -/
theorem RdM.lcell (h : RdM G x s stp cl R W) {n : Nat} (hn : n < s.N) : ∃ lo lc, W.cell? ⟨R.bb, n * 2 + 1, none⟩ = some (.slice lo (s.kc n) lc) ∧ (0 < s.kc n → ∃ lb, lo = some ⟨lb, 0, none⟩ ∧ ∀ j, j < s.kc n → W.cell? ⟨lb, j, none⟩ = some (.string (tx (s.uc n j)))) := by
  obtain ⟨lo, lc, hlv⟩ := own_form9 (h.list n hn)
  refine ⟨lo, lc, ?_, fun hk => ?_⟩
  · rw [h.row.1 (n * 2 + 1) (by omega)]
    unfold blV
    rw [if_neg (by omega), show (n * 2 + 1) / 2 = n by omega, hlv]
  · obtain ⟨lb, lc', e, _, _, _, hr⟩ := (h.list n hn).lies hk
    rw [hlv] at e
    injection e with e
    exact ⟨lb, e, fun j hj => hr.1 j hj⟩
structure CkR (G : Nat → Prop) (x : Nat) (s : DSt) (stp : Bool) (cl : Int) (R : RM) (kb kw : Nat → Int) (W : World) (i : Nat) (X : World) : Prop where
  rd : RdM G x { s with S := crF s kb kw i } stp cl R X
  keeps : Keeps (fun i => i = x ∨ i = R.bb) W X
theorem CkR.skip {i : Nat} {X : World} (h : CkR G x s stp cl R kb kw W i X) (h0 : ¬ 0 < kw i) : CkR G x s stp cl R kb kw W (i + 1) X := by
  have e : crF s kb kw (i + 1) = crF s kb kw i := if_neg h0
  refine ⟨?_, h.keeps⟩
  rw [e]
  exact h.rd
theorem CkR.step {i : Nat} {X X1 : World} (h : CkR G x s stp cl R kb kw W i X) (hE : Ext X X1) (h0 : 0 < kw i) : CkR G x s stp cl R kb kw W (i + 1) (X1.setCell ⟨R.bb, (kb i).toNat * 2, none⟩ (.string (tx (s.uc (kb i).toNat ((kw i).toNat - 1))))) := by
  have e : crF s kb kw (i + 1) = upN (crF s kb kw i) (kb i).toNat (s.uc (kb i).toNat ((kw i).toNat - 1)) := if_pos h0
  obtain ⟨h1, k1⟩ := (h.rd.ext hE).setS1 (kb i).toNat (s.uc (kb i).toNat ((kw i).toNat - 1))
  refine ⟨?_, (h.keeps.ext hE).trans (F' := fun i => i = x ∨ i = R.bb) k1 fun i hi => .inl hi⟩
  rw [e]
  exact h1
structure CnR (G : Nat → Prop) (x : Nat) (s : DSt) (stp : Bool) (cl : Int) (bb : Nat) (T : Nat → Nat → BitVec 8) (W : World) (i : Nat) (R1 : RM) (X : World) : Prop where
  rd : RdM G x { s with S := T, kc := fun m => if m < i then 0 else s.kc m } stp cl R1 X
  isB : R1.bb = bb
  keeps : Keeps (fun i => i = x ∨ i = bb) W X
theorem CnR.step {bb i : Nat} {T : Nat → Nat → BitVec 8} {R1 : RM} {X : World} (h : CnR G x s stp cl bb T W i R1 X) : CnR G x s stp cl bb T W (i + 1) { R1 with lv := upN R1.lv i (.slice none 0 0) } (X.setCell ⟨R1.bb, i * 2 + 1, none⟩ (.slice none 0 0)) := by
  obtain ⟨h2, k2⟩ := h.rd.setL1 i (.slice none 0 0) 0 (s.uc i) (own_nil _ 0 9 _) (fun b hb => by cases hb)
  have h3 := h2.reG (G' := G) (fun i hi => by
    rcases hi with hi | hi
    · exact hi
    · cases hi) fun i hi => .inl hi
  refine ⟨h3.congr rfl (fun m hm => rfl) (fun m hm => ?_) (fun m hm => ?_), h.isB, ?_⟩
  · show upN (fun m => if m < i then 0 else s.kc m) i 0 m = if m < i + 1 then 0 else s.kc m
    by_cases e : m = i
    · rw [e, upN_same, if_pos (by omega)]
    · rw [upN_other _ e]
      by_cases e2 : m < i
      · rw [if_pos e2, if_pos (by omega)]
      · rw [if_neg e2, if_neg (by omega)]
  · show upN s.uc i (s.uc i) m = s.uc m
    rw [upN_self]
  · rw [h.isB] at k2
    rw [h.isB]
    exact h.keeps.trans (F' := fun i => i = x ∨ i = bb) k2 fun i hi => .inl hi
def crR (s : DSt) (kb kw : Nat → Int) (k : Nat) : DSt := { s with S := crF s kb kw k, kc := fun _ => 0 }
end
end Go.Proofs.Ytfaeieaelfjlpaa
namespace Go.Proofs.Ytfaeieaelfjlpaa
open Go.RowKit Go.BigFrame Go.Maps
section
variable {F G : Nat → Prop} {x : Nat} {s : DSt} {stp : Bool} {cl : Int} {R : RM} {W Y : World} {kb kw : Nat → Int}
theorem addZ (a : Addr) (j : Nat) : (a.add j).add 0 = a.add j := by rw [add_add, Nat.add_zero]
set_option maxRecDepth 20000 in
set_option maxHeartbeats 8000000 in
theorem rcrash (h : RdM G x s stp cl R W) (kv : Value) (k : Nat) (hk : KL kv k kb kw W) (hka : ∀ a c, kv = .slice (some a) k c → ¬ G a.block) (hk9 : k ≤ 140737488355328) (hyes : okD s kb kw k) : Calls Try.prog 33 #[.pointer (some ⟨x, 0, none⟩), kv] W fun e w' => e = .returned (.int .i64 0) ∧ ∃ R', R'.bb = R.bb ∧ RdM G x (crR s kb kw k) false cl R' w' ∧ Keeps (fun i => i = x ∨ i = R.bb) W w' := by
  obtain ⟨ko, kcap, rfl⟩ := hk.form
  have hkl : Hid (∀ i, i < k → ∃ a, ko = some a ∧ ¬ G a.block ∧ W.cell? (a.add (i * 2)) = some (.int .i64 (kb i)) ∧ W.cell? ⟨(a.add (i * 2)).block, (a.add (i * 2)).off + 1, none⟩ = some (.int .i64 (kw i))) := fun i hi => by
    rcases hk with ⟨_, h0⟩ | ⟨a, cap', h1, _, h3⟩
    · omega
    · injection h1 with e1 e2 e3
      subst e1
      have hel := kl_at h3 i hi
      have e := hel.1 0 (by decide)
      rw [addZ] at e
      exact ⟨a, rfl, hka a _ rfl, e, hel.1 1 (by decide)⟩
  replace h := hideit h
  replace hyes := hideit hyes
  have hn4 := h.out.n4
  clear hk hka
  go_enter Try.func33, Try.ntmps33
  go_wp2
  go_loopw [5] (fun iv X => ∃ i : Nat, i ≤ k ∧ iv = .int .i64 (i : Int) ∧ Ext W X) (fun iv _ => 200000000000000 - (intOf iv).toNat)
  case atStart => exact ⟨0, Nat.zero_le _, rfl, Ext.refl _⟩
  case round =>
    obtain ⟨i, hi, rfl, hE⟩ := hrel
    by_cases hlt : i < k
    · have i1 : (i : Int) < (k : Int) := by omega
      obtain ⟨⟨hin, hw0, hw1⟩, hdp⟩ := hyes.out i hlt
      obtain ⟨m, hm, hmN⟩ := inN_spec hin
      obtain ⟨a, rfl, hGa, d0, d1⟩ := hkl.out i hlt
      have hR := h.out.ext hE
      obtain ⟨lo, lc, hl1, _⟩ := hR.lcell hmN
      have hD : Ext wr wr.drew := (Ext.refl wr).draw
      have e0 : ∀ X, Ext wr.drew X → X.cell? ⟨x, 0, none⟩ = some (.slice (some ⟨R.bb, 0, none⟩) s.N R.cp) := fun X hX => (hR.ext (Ext.trans hD hX)).c0
      have l1 : ∀ X, Ext wr.drew X → X.cell? ⟨R.bb, m * 2 + 1, none⟩ = some (.slice lo (s.kc m) lc) := fun X hX => cell_ext (Ext.trans hD hX) hl1
      have c0 : wr.cell? (a.add (i * 2)) = some (.int .i64 (m : Int)) := by rw [← hm]; exact cell_ext hE d0
      have c1 : ∀ X, Ext wr.drew X → X.cell? ⟨(a.add (i * 2)).block, (a.add (i * 2)).off + 1, none⟩ = some (.int .i64 (kw i)) := fun X hX => cell_ext (Ext.trans (Ext.trans hE hD) hX) d1
      rw [hm, Int.toNat_natCast] at hw1
      have w0 : ¬ kw i < 0 := by omega
      have w1 : ¬ (s.kc m : Int) < kw i := by omega
      have m0 : ¬ (m : Int) < 0 := by omega
      have m1 : ¬ (s.N : Int) ≤ (m : Int) := by omega
      have m2 : (m : Int) < (s.N : Int) := by omega
      have hED := hideit (Ext.trans hE hD)
      replace hdp := hideit hdp
      replace hm := hideit hm
      clear hR hl1 hin d0 d1
      go_upto_region 4 with (fail)
      refine wp_region_lit ?_
      refine wpList_run rfl (.slice (some a) k kcap) (by simp [go_sem]) ?_
      simp only [Act.put, List.setIfInBounds_toArray, List.set_cons_zero, List.set_cons_succ]
      refine wpList_run rfl (.int .i64 (i : Int)) (by simp [go_sem]) ?_
      simp only [Act.put, List.setIfInBounds_toArray, List.set_cons_zero, List.set_cons_succ]
      refine wpList_run rfl (.pointer (some (a.add (i * 2)))) (by simp [go_sem, i1]) ?_
      simp only [Act.put, List.setIfInBounds_toArray, List.set_cons_zero, List.set_cons_succ]
      refine wpList_run rfl (.pointer (some (a.add (i * 2)))) (by simp [go_sem]) ?_
      simp only [Act.put, List.setIfInBounds_toArray, List.set_cons_zero, List.set_cons_succ]
      refine wpList_run rfl (.int .i64 (m : Int)) (by simp [go_sem, c0]) ?_
      simp only [Act.put, List.setIfInBounds_toArray, List.set_cons_zero, List.set_cons_succ]
      refine wpList_run rfl (.int .i64 (m : Int)) (by simp [go_sem]) ?_
      simp only [Act.put, List.setIfInBounds_toArray, List.set_cons_zero, List.set_cons_succ]
      go_upto_region 5 with (fail)
      refine wp_region_lad (fun X => Ext wr.drew X) [(false, 0), (false, 1), (false, 2), (false, 3), (false, 4), (false, 5), (false, 6), (false, 7), (false, 8), (false, 9), (false, 10), (false, 11), (false, 12), (false, 13), (false, 14), (false, 15), (false, 16), (false, 17), (false, 18), (false, 19), (false, 20), (false, 21), (false, 22), (false, 23), (false, 24), (false, 25), (false, 26), (false, 27), (false, 28), (false, 29), (false, 30), (false, 31), (false, 32), (false, 33), (false, 34), (false, 35)] (by kernel_rfl) (by kernel_rfl) (by decide +kernel) (by decide +kernel) (by decide +kernel) (by decide +kernel) (Ext.refl _) ?_
      generalize wr.drew = wd at *
      refine wpX_f _ (.int .i64 (m : Int)) rfl rfl (fun X _ => by simp [go_sem]) ?_
      simp only [List.getElem_toArray, List.getElem_cons_zero, Act.put, List.setIfInBounds_toArray, List.set_cons_zero, List.set_cons_succ]
      refine wpX_f _ (.bool false) rfl rfl (fun X _ => by simp [go_sem, m0]) ?_
      simp only [List.getElem_toArray, List.getElem_cons_zero, List.getElem_cons_succ, Act.put, List.setIfInBounds_toArray, List.set_cons_zero, List.set_cons_succ]
      refine wpX_f _ (.bool false) rfl rfl (fun X _ => by simp [go_sem]) ?_
      simp only [List.getElem_toArray, List.getElem_cons_zero, List.getElem_cons_succ, Act.put, List.setIfInBounds_toArray, List.set_cons_zero, List.set_cons_succ]
      refine wpX_f _ (.int .i64 (m : Int)) rfl rfl (fun X _ => by simp [go_sem]) ?_
      simp only [List.getElem_toArray, List.getElem_cons_zero, List.getElem_cons_succ, Act.put, List.setIfInBounds_toArray, List.set_cons_zero, List.set_cons_succ]
      refine wpX_f _ (.pointer (some ⟨x, 0, none⟩)) rfl rfl (fun X _ => by simp [go_sem]) ?_
      simp only [List.getElem_toArray, List.getElem_cons_zero, List.getElem_cons_succ, Act.put, List.setIfInBounds_toArray, List.set_cons_zero, List.set_cons_succ]
      refine wpX_f _ (.pointer (some ⟨x, 0, none⟩)) rfl rfl (fun X _ => by simp [go_sem]) ?_
      simp only [List.getElem_toArray, List.getElem_cons_zero, List.getElem_cons_succ, Act.put, List.setIfInBounds_toArray, List.set_cons_zero, List.set_cons_succ]
      refine wpX_f _ (.pointer (some ⟨x, 0, none⟩)) rfl rfl (fun X _ => by simp [go_sem]) ?_
      simp only [List.getElem_toArray, List.getElem_cons_zero, List.getElem_cons_succ, Act.put, List.setIfInBounds_toArray, List.set_cons_zero, List.set_cons_succ]
      refine wpX_f _ (.slice (some ⟨R.bb, 0, none⟩) s.N R.cp) rfl rfl (fun X hX => by have e := e0 X hX; simp [go_sem, e]) ?_
      simp only [List.getElem_toArray, List.getElem_cons_zero, List.getElem_cons_succ, Act.put, List.setIfInBounds_toArray, List.set_cons_zero, List.set_cons_succ]
      refine wpX_f _ (.int .i64 (s.N : Int)) rfl rfl (fun X _ => by simp [go_sem]) ?_
      simp only [List.getElem_toArray, List.getElem_cons_zero, List.getElem_cons_succ, Act.put, List.setIfInBounds_toArray, List.set_cons_zero, List.set_cons_succ]
      refine wpX_f _ (.bool false) rfl rfl (fun X _ => by simp [go_sem, m1]) ?_
      simp only [List.getElem_toArray, List.getElem_cons_zero, List.getElem_cons_succ, Act.put, List.setIfInBounds_toArray, List.set_cons_zero, List.set_cons_succ]
      refine wpX_f _ (.bool false) rfl rfl (fun X _ => by simp [go_sem]) ?_
      simp only [List.getElem_toArray, List.getElem_cons_zero, List.getElem_cons_succ, Act.put, List.setIfInBounds_toArray, List.set_cons_zero, List.set_cons_succ]
      refine wpX_f _ (.bool false) rfl rfl (fun X _ => by simp [go_sem]) ?_
      simp only [List.getElem_toArray, List.getElem_cons_zero, List.getElem_cons_succ, Act.put, List.setIfInBounds_toArray, List.set_cons_zero, List.set_cons_succ]
      refine wpX_f _ (.slice (some a) k kcap) rfl rfl (fun X _ => by simp [go_sem]) ?_
      simp only [List.getElem_toArray, List.getElem_cons_zero, List.getElem_cons_succ, Act.put, List.setIfInBounds_toArray, List.set_cons_zero, List.set_cons_succ]
      refine wpX_f _ (.int .i64 (i : Int)) rfl rfl (fun X _ => by simp [go_sem]) ?_
      simp only [List.getElem_toArray, List.getElem_cons_zero, List.getElem_cons_succ, Act.put, List.setIfInBounds_toArray, List.set_cons_zero, List.set_cons_succ]
      refine wpX_f _ (.pointer (some (a.add (i * 2)))) rfl rfl (fun X _ => by simp [go_sem, i1]) ?_
      simp only [List.getElem_toArray, List.getElem_cons_zero, List.getElem_cons_succ, Act.put, List.setIfInBounds_toArray, List.set_cons_zero, List.set_cons_succ]
      refine wpX_f _ (.pointer (some ⟨(a.add (i * 2)).block, (a.add (i * 2)).off + 1, none⟩)) rfl rfl (fun X _ => by simp [go_sem]) ?_
      simp only [List.getElem_toArray, List.getElem_cons_zero, List.getElem_cons_succ, Act.put, List.setIfInBounds_toArray, List.set_cons_zero, List.set_cons_succ]
      refine wpX_f _ (.int .i64 (kw i)) rfl rfl (fun X hX => by have e := c1 X hX; simp [go_sem, e]) ?_
      simp only [List.getElem_toArray, List.getElem_cons_zero, List.getElem_cons_succ, Act.put, List.setIfInBounds_toArray, List.set_cons_zero, List.set_cons_succ]
      refine wpX_f _ (.bool false) rfl rfl (fun X _ => by simp [go_sem, w0]) ?_
      simp only [List.getElem_toArray, List.getElem_cons_zero, List.getElem_cons_succ, Act.put, List.setIfInBounds_toArray, List.set_cons_zero, List.set_cons_succ]
      refine wpX_f _ (.bool false) rfl rfl (fun X _ => by simp [go_sem]) ?_
      simp only [List.getElem_toArray, List.getElem_cons_zero, List.getElem_cons_succ, Act.put, List.setIfInBounds_toArray, List.set_cons_zero, List.set_cons_succ]
      refine wpX_f _ (.bool false) rfl rfl (fun X _ => by simp [go_sem]) ?_
      simp only [List.getElem_toArray, List.getElem_cons_zero, List.getElem_cons_succ, Act.put, List.setIfInBounds_toArray, List.set_cons_zero, List.set_cons_succ]
      refine wpX_f _ (.slice (some a) k kcap) rfl rfl (fun X _ => by simp [go_sem]) ?_
      simp only [List.getElem_toArray, List.getElem_cons_zero, List.getElem_cons_succ, Act.put, List.setIfInBounds_toArray, List.set_cons_zero, List.set_cons_succ]
      refine wpX_f _ (.int .i64 (i : Int)) rfl rfl (fun X _ => by simp [go_sem]) ?_
      simp only [List.getElem_toArray, List.getElem_cons_zero, List.getElem_cons_succ, Act.put, List.setIfInBounds_toArray, List.set_cons_zero, List.set_cons_succ]
      refine wpX_f _ (.pointer (some (a.add (i * 2)))) rfl rfl (fun X _ => by simp [go_sem, i1]) ?_
      simp only [List.getElem_toArray, List.getElem_cons_zero, List.getElem_cons_succ, Act.put, List.setIfInBounds_toArray, List.set_cons_zero, List.set_cons_succ]
      refine wpX_f _ (.pointer (some ⟨(a.add (i * 2)).block, (a.add (i * 2)).off + 1, none⟩)) rfl rfl (fun X _ => by simp [go_sem]) ?_
      simp only [List.getElem_toArray, List.getElem_cons_zero, List.getElem_cons_succ, Act.put, List.setIfInBounds_toArray, List.set_cons_zero, List.set_cons_succ]
      refine wpX_f _ (.int .i64 (kw i)) rfl rfl (fun X hX => by have e := c1 X hX; simp [go_sem, e]) ?_
      simp only [List.getElem_toArray, List.getElem_cons_zero, List.getElem_cons_succ, Act.put, List.setIfInBounds_toArray, List.set_cons_zero, List.set_cons_succ]
      refine wpX_f _ (.pointer (some ⟨x, 0, none⟩)) rfl rfl (fun X _ => by simp [go_sem]) ?_
      simp only [List.getElem_toArray, List.getElem_cons_zero, List.getElem_cons_succ, Act.put, List.setIfInBounds_toArray, List.set_cons_zero, List.set_cons_succ]
      refine wpX_f _ (.pointer (some ⟨x, 0, none⟩)) rfl rfl (fun X _ => by simp [go_sem]) ?_
      simp only [List.getElem_toArray, List.getElem_cons_zero, List.getElem_cons_succ, Act.put, List.setIfInBounds_toArray, List.set_cons_zero, List.set_cons_succ]
      refine wpX_f _ (.pointer (some ⟨x, 0, none⟩)) rfl rfl (fun X _ => by simp [go_sem]) ?_
      simp only [List.getElem_toArray, List.getElem_cons_zero, List.getElem_cons_succ, Act.put, List.setIfInBounds_toArray, List.set_cons_zero, List.set_cons_succ]
      refine wpX_f _ (.slice (some ⟨R.bb, 0, none⟩) s.N R.cp) rfl rfl (fun X hX => by have e := e0 X hX; simp [go_sem, e]) ?_
      simp only [List.getElem_toArray, List.getElem_cons_zero, List.getElem_cons_succ, Act.put, List.setIfInBounds_toArray, List.set_cons_zero, List.set_cons_succ]
      refine wpX_f _ (.int .i64 (m : Int)) rfl rfl (fun X _ => by simp [go_sem]) ?_
      simp only [List.getElem_toArray, List.getElem_cons_zero, List.getElem_cons_succ, Act.put, List.setIfInBounds_toArray, List.set_cons_zero, List.set_cons_succ]
      refine wpX_f _ (.pointer (some ⟨R.bb, m * 2, none⟩)) rfl rfl (fun X _ => by simp [go_sem, m2]) ?_
      simp only [List.getElem_toArray, List.getElem_cons_zero, List.getElem_cons_succ, Act.put, List.setIfInBounds_toArray, List.set_cons_zero, List.set_cons_succ]
      refine wpX_f _ (.pointer (some ⟨R.bb, m * 2 + 1, none⟩)) rfl rfl (fun X _ => by simp [go_sem]) ?_
      simp only [List.getElem_toArray, List.getElem_cons_zero, List.getElem_cons_succ, Act.put, List.setIfInBounds_toArray, List.set_cons_zero, List.set_cons_succ]
      refine wpX_f _ (.slice lo (s.kc m) lc) rfl rfl (fun X hX => by have e := l1 X hX; simp [go_sem, e]) ?_
      simp only [List.getElem_toArray, List.getElem_cons_zero, List.getElem_cons_succ, Act.put, List.setIfInBounds_toArray, List.set_cons_zero, List.set_cons_succ]
      refine wpX_f _ (.int .i64 (s.kc m : Int)) rfl rfl (fun X _ => by simp [go_sem]) ?_
      simp only [List.getElem_toArray, List.getElem_cons_zero, List.getElem_cons_succ, Act.put, List.setIfInBounds_toArray, List.set_cons_zero, List.set_cons_succ]
      refine wpX_f _ (.bool false) rfl rfl (fun X _ => by simp [go_sem, w1]) ?_
      simp only [List.getElem_toArray, List.getElem_cons_zero, List.getElem_cons_succ, Act.put, List.setIfInBounds_toArray, List.set_cons_zero, List.set_cons_succ]
      refine wpX_f _ (.bool false) rfl rfl (fun X _ => by simp [go_sem]) ?_
      simp only [List.getElem_toArray, List.getElem_cons_zero, List.getElem_cons_succ, Act.put, List.setIfInBounds_toArray, List.set_cons_zero, List.set_cons_succ]
      refine wpX_nil ?_
      clear e0 l1 c0 c1 w0 w1 hD
      go_wp2
      go_loopw [7] (fun jv X => ∃ j : Nat, j ≤ i ∧ jv = .int .i64 (j : Int) ∧ Ext W X) (fun jv _ => 200000000000000 - (intOf jv).toNat)
      case atStart => exact ⟨0, Nat.zero_le _, rfl, hED.out⟩
      case round =>
        obtain ⟨j, hj, rfl, hE2⟩ := hrel
        by_cases hji : j < i
        · have j1 : (j : Int) < (i : Int) := by omega
          have j2 : (j : Int) < (k : Int) := by omega
          obtain ⟨a', ea, _, d0, _⟩ := hkl.out j (by omega)
          obtain rfl : a = a' := Option.some.inj ea
          have c0 := cell_ext hE2 d0
          have hne : ¬ kb j = (m : Int) := by rw [← hm.out]; exact hdp.out j hji
          clear d0 ea
          go_upto_region 10 with (fail)
          refine wp_region_lit ?_
          refine wpList_run rfl (.slice (some a) k kcap) (by simp [go_sem]) ?_
          simp only [Act.put, List.setIfInBounds_toArray, List.set_cons_zero, List.set_cons_succ]
          refine wpList_run rfl (.int .i64 (j : Int)) (by simp [go_sem]) ?_
          simp only [Act.put, List.setIfInBounds_toArray, List.set_cons_zero, List.set_cons_succ]
          refine wpList_run rfl (.pointer (some (a.add (j * 2)))) (by simp [go_sem, j2]) ?_
          simp only [Act.put, List.setIfInBounds_toArray, List.set_cons_zero, List.set_cons_succ]
          refine wpList_run rfl (.pointer (some (a.add (j * 2)))) (by simp [go_sem]) ?_
          simp only [Act.put, List.setIfInBounds_toArray, List.set_cons_zero, List.set_cons_succ]
          refine wpList_run rfl (.int .i64 (kb j)) (by simp [go_sem, c0]) ?_
          simp only [Act.put, List.setIfInBounds_toArray, List.set_cons_zero, List.set_cons_succ]
          refine wpList_run rfl (.int .i64 (m : Int)) (by simp [go_sem]) ?_
          simp only [Act.put, List.setIfInBounds_toArray, List.set_cons_zero, List.set_cons_succ]
          refine wpList_run rfl (.bool false) (by simp [go_sem, hne]) ?_
          simp only [Act.put, List.setIfInBounds_toArray, List.set_cons_zero, List.set_cons_succ]
          clear c0
          go_wp2
          exact ⟨⟨j + 1, by omega, by go_num, hE2⟩, by simp [intOf]; omega⟩
        · obtain rfl : j = i := by omega
          have j1 : ¬ (j : Int) < (j : Int) := by omega
          go_wp2
          exact ⟨⟨j + 1, by omega, by go_num, hE2⟩, by simp [intOf]; omega⟩
    · obtain rfl : i = k := by omega
      have i1 : ¬ (i : Int) < (i : Int) := by omega
      have hC0 : Hid (CkR G x s stp cl R kb kw W 0 wr) := ⟨h.out.ext hE, Keeps.of_ext hE⟩
      go_wp2
      go_loopw [8] (fun iv X => ∃ j : Nat, j ≤ i ∧ iv = .int .i64 (j : Int) ∧ CkR G x s stp cl R kb kw W j X) (fun iv _ => 200000000000000 - (intOf iv).toNat)
      case atStart => exact ⟨0, Nat.zero_le _, rfl, hC0.out⟩
      case round =>
        obtain ⟨j, hj, rfl, hI⟩ := hrel
        clear hC0
        by_cases hlt : j < i
        · have i1 : (j : Int) < (i : Int) := by omega
          obtain ⟨⟨hin, hw0, hw1⟩, _⟩ := hyes.out j hlt
          obtain ⟨m, hm, hmN⟩ := inN_spec hin
          obtain ⟨a, rfl, hGa, d0, d1⟩ := hkl.out j hlt
          have hnF : ¬ (a.block = x ∨ a.block = R.bb) := fun e => by
            rcases e with e | e
            · exact hGa (e ▸ h.out.gx)
            · exact hGa (e ▸ h.out.gb)
          have c0 : wr.cell? (a.add (j * 2)) = some (.int .i64 (m : Int)) := by rw [← hm]; exact cell_keep hI.keeps (by rw [add_block]; exact hnF) d0
          have c1 : wr.cell? ⟨(a.add (j * 2)).block, (a.add (j * 2)).off + 1, none⟩ = some (.int .i64 (kw j)) := cell_keep hI.keeps (by show ¬ ((a.add (j * 2)).block = x ∨ (a.add (j * 2)).block = R.bb); rw [add_block]; exact hnF) d1
          rw [hm, Int.toNat_natCast] at hw1
          have m2 : (m : Int) < (s.N : Int) := by omega
          go_upto_region 15 with (fail)
          refine wp_region_lit ?_
          refine wpList_run rfl (.slice (some a) i kcap) (by simp [go_sem]) ?_
          simp only [Act.put, List.setIfInBounds_toArray, List.set_cons_zero, List.set_cons_succ]
          refine wpList_run rfl (.int .i64 (j : Int)) (by simp [go_sem]) ?_
          simp only [Act.put, List.setIfInBounds_toArray, List.set_cons_zero, List.set_cons_succ]
          refine wpList_run rfl (.pointer (some (a.add (j * 2)))) (by simp [go_sem, i1]) ?_
          simp only [Act.put, List.setIfInBounds_toArray, List.set_cons_zero, List.set_cons_succ]
          refine wpList_run rfl (.pointer (some (a.add (j * 2)))) (by simp [go_sem]) ?_
          simp only [Act.put, List.setIfInBounds_toArray, List.set_cons_zero, List.set_cons_succ]
          refine wpList_run rfl (.int .i64 (m : Int)) (by simp [go_sem, c0]) ?_
          simp only [Act.put, List.setIfInBounds_toArray, List.set_cons_zero, List.set_cons_succ]
          refine wpList_run rfl (.int .i64 (m : Int)) (by simp [go_sem]) ?_
          simp only [Act.put, List.setIfInBounds_toArray, List.set_cons_zero, List.set_cons_succ]
          go_upto_region 16 with (fail)
          refine wp_region_lit ?_
          refine wpList_run rfl (.slice (some a) i kcap) (by simp [go_sem]) ?_
          simp only [Act.put, List.setIfInBounds_toArray, List.set_cons_zero, List.set_cons_succ]
          refine wpList_run rfl (.int .i64 (j : Int)) (by simp [go_sem]) ?_
          simp only [Act.put, List.setIfInBounds_toArray, List.set_cons_zero, List.set_cons_succ]
          refine wpList_run rfl (.pointer (some (a.add (j * 2)))) (by simp [go_sem, i1]) ?_
          simp only [Act.put, List.setIfInBounds_toArray, List.set_cons_zero, List.set_cons_succ]
          refine wpList_run rfl (.pointer (some ⟨(a.add (j * 2)).block, (a.add (j * 2)).off + 1, none⟩)) (by simp [go_sem]) ?_
          simp only [Act.put, List.setIfInBounds_toArray, List.set_cons_zero, List.set_cons_succ]
          refine wpList_run rfl (.int .i64 (kw j)) (by simp [go_sem, c1]) ?_
          simp only [Act.put, List.setIfInBounds_toArray, List.set_cons_zero, List.set_cons_succ]
          by_cases hpos : 0 < kw j
          · have hD : Ext wr wr.drew := (Ext.refl wr).draw
            have hS := hideit (hI.step hD hpos)
            have hR := hI.rd.ext hD
            have hkp : 0 < s.kc m := by omega
            obtain ⟨lo, lc, hl1, hl2⟩ := hR.lcell hmN
            obtain ⟨lb, rfl, hlq⟩ := hl2 hkp
            obtain ⟨q, hq⟩ : ∃ q, q = (kw j).toNat - 1 := ⟨_, rfl⟩
            have e0 : ∀ X, Ext wr.drew X → X.cell? ⟨x, 0, none⟩ = some (.slice (some ⟨R.bb, 0, none⟩) s.N R.cp) := fun X hX => (hR.ext hX).c0
            have l1 : ∀ X, Ext wr.drew X → X.cell? ⟨R.bb, m * 2 + 1, none⟩ = some (.slice (some ⟨lb, 0, none⟩) (s.kc m) lc) := fun X hX => cell_ext hX hl1
            have lq : ∀ X, Ext wr.drew X → X.cell? ⟨lb, q, none⟩ = some (.string (tx (s.uc m q))) := fun X hX => cell_ext hX (hlq q (by show q < s.kc m; omega))
            have c1' : ∀ X, Ext wr.drew X → X.cell? ⟨(a.add (j * 2)).block, (a.add (j * 2)).off + 1, none⟩ = some (.int .i64 (kw j)) := fun X hX => cell_ext (Ext.trans hD hX) c1
            have hkm : s.kc m ≤ 9223372036854775807 := by
              obtain ⟨_, cp, _, _, a1, a2, _⟩ := (hR.list m hmN).lies hkp
              have a1' : s.kc m ≤ cp := a1
              unfold maxLen at a2
              omega
            have wq : IntKind.i64.wrap (kw j - 1) = (q : Int) := by rw [IntKind.wrap_i64]; omega
            have q1 : (q : Int) < (s.kc m : Int) := by omega
            have hrr := hR.row
            have eS : wr.drew.cell? ⟨R.bb, m * 2, none⟩ = some (.string (tx (crF s kb kw j m))) := by
              rw [hrr.1 (m * 2) (by show m * 2 < s.N * 2; omega)]
              unfold blV
              rw [if_pos (by omega), show m * 2 / 2 = m by omega]
            have zS : wr.drew.frozen? ⟨R.bb, m * 2, none⟩ = false := hrr.2.1 (m * 2) (by show m * 2 < s.N * 2; omega)
            rw [hm, Int.toNat_natCast, ← hq] at hS
            generalize tx (s.uc m q) = b at *
            replace hq := hideit hq
            replace hm := hideit hm
            clear hR hl1 hl2 hlq hI hrr c0
            refine wpList_run rfl (.bool true) (by simp [go_sem, hpos]) ?_
            simp only [Act.put, List.setIfInBounds_toArray, List.set_cons_zero, List.set_cons_succ]
            clear c1
            go_upto_region 17 with (fail)
            refine wp_region_ladz (fun X => Ext wr.drew X) [23] [(false, 0), (false, 1), (false, 2), (false, 3), (false, 4), (false, 5), (false, 6), (false, 7), (false, 8), (false, 9), (false, 10), (false, 11), (false, 12), (false, 13), (false, 14), (false, 15), (false, 16), (false, 17), (false, 18), (false, 19), (false, 20), (false, 21), (false, 22), (true, 23)] (by kernel_rfl) (by kernel_rfl) (by decide +kernel) (by decide +kernel) (by decide +kernel) (by decide +kernel) (Ext.refl _) ?_
            generalize wr.drew = wd at *
            refine wpZ_f _ (.pointer (some ⟨x, 0, none⟩)) rfl rfl (fun X _ => by simp [go_sem]) ?_
            simp only [List.getElem_toArray, List.getElem_cons_zero, Act.put, List.setIfInBounds_toArray, List.set_cons_zero, List.set_cons_succ]
            refine wpZ_f _ (.pointer (some ⟨x, 0, none⟩)) rfl rfl (fun X _ => by simp [go_sem]) ?_
            simp only [List.getElem_toArray, List.getElem_cons_zero, List.getElem_cons_succ, Act.put, List.setIfInBounds_toArray, List.set_cons_zero, List.set_cons_succ]
            refine wpZ_f _ (.pointer (some ⟨x, 0, none⟩)) rfl rfl (fun X _ => by simp [go_sem]) ?_
            simp only [List.getElem_toArray, List.getElem_cons_zero, List.getElem_cons_succ, Act.put, List.setIfInBounds_toArray, List.set_cons_zero, List.set_cons_succ]
            refine wpZ_f _ (.slice (some ⟨R.bb, 0, none⟩) s.N R.cp) rfl rfl (fun X hX => by have e := e0 X hX; simp [go_sem, e]) ?_
            simp only [List.getElem_toArray, List.getElem_cons_zero, List.getElem_cons_succ, Act.put, List.setIfInBounds_toArray, List.set_cons_zero, List.set_cons_succ]
            refine wpZ_f _ (.int .i64 (m : Int)) rfl rfl (fun X _ => by simp [go_sem]) ?_
            simp only [List.getElem_toArray, List.getElem_cons_zero, List.getElem_cons_succ, Act.put, List.setIfInBounds_toArray, List.set_cons_zero, List.set_cons_succ]
            refine wpZ_f _ (.pointer (some ⟨x, 0, none⟩)) rfl rfl (fun X _ => by simp [go_sem]) ?_
            simp only [List.getElem_toArray, List.getElem_cons_zero, List.getElem_cons_succ, Act.put, List.setIfInBounds_toArray, List.set_cons_zero, List.set_cons_succ]
            refine wpZ_f _ (.pointer (some ⟨x, 0, none⟩)) rfl rfl (fun X _ => by simp [go_sem]) ?_
            simp only [List.getElem_toArray, List.getElem_cons_zero, List.getElem_cons_succ, Act.put, List.setIfInBounds_toArray, List.set_cons_zero, List.set_cons_succ]
            refine wpZ_f _ (.pointer (some ⟨x, 0, none⟩)) rfl rfl (fun X _ => by simp [go_sem]) ?_
            simp only [List.getElem_toArray, List.getElem_cons_zero, List.getElem_cons_succ, Act.put, List.setIfInBounds_toArray, List.set_cons_zero, List.set_cons_succ]
            refine wpZ_f _ (.slice (some ⟨R.bb, 0, none⟩) s.N R.cp) rfl rfl (fun X hX => by have e := e0 X hX; simp [go_sem, e]) ?_
            simp only [List.getElem_toArray, List.getElem_cons_zero, List.getElem_cons_succ, Act.put, List.setIfInBounds_toArray, List.set_cons_zero, List.set_cons_succ]
            refine wpZ_f _ (.int .i64 (m : Int)) rfl rfl (fun X _ => by simp [go_sem]) ?_
            simp only [List.getElem_toArray, List.getElem_cons_zero, List.getElem_cons_succ, Act.put, List.setIfInBounds_toArray, List.set_cons_zero, List.set_cons_succ]
            refine wpZ_f _ (.pointer (some ⟨R.bb, m * 2, none⟩)) rfl rfl (fun X _ => by simp [go_sem, m2]) ?_
            simp only [List.getElem_toArray, List.getElem_cons_zero, List.getElem_cons_succ, Act.put, List.setIfInBounds_toArray, List.set_cons_zero, List.set_cons_succ]
            refine wpZ_f _ (.pointer (some ⟨R.bb, m * 2 + 1, none⟩)) rfl rfl (fun X _ => by simp [go_sem]) ?_
            simp only [List.getElem_toArray, List.getElem_cons_zero, List.getElem_cons_succ, Act.put, List.setIfInBounds_toArray, List.set_cons_zero, List.set_cons_succ]
            refine wpZ_f _ (.slice (some ⟨lb, 0, none⟩) (s.kc m) lc) rfl rfl (fun X hX => by have e := l1 X hX; simp [go_sem, e]) ?_
            simp only [List.getElem_toArray, List.getElem_cons_zero, List.getElem_cons_succ, Act.put, List.setIfInBounds_toArray, List.set_cons_zero, List.set_cons_succ]
            refine wpZ_f _ (.slice (some a) i kcap) rfl rfl (fun X _ => by simp [go_sem]) ?_
            simp only [List.getElem_toArray, List.getElem_cons_zero, List.getElem_cons_succ, Act.put, List.setIfInBounds_toArray, List.set_cons_zero, List.set_cons_succ]
            refine wpZ_f _ (.int .i64 (j : Int)) rfl rfl (fun X _ => by simp [go_sem]) ?_
            simp only [List.getElem_toArray, List.getElem_cons_zero, List.getElem_cons_succ, Act.put, List.setIfInBounds_toArray, List.set_cons_zero, List.set_cons_succ]
            refine wpZ_f _ (.pointer (some (a.add (j * 2)))) rfl rfl (fun X _ => by simp [go_sem, i1]) ?_
            simp only [List.getElem_toArray, List.getElem_cons_zero, List.getElem_cons_succ, Act.put, List.setIfInBounds_toArray, List.set_cons_zero, List.set_cons_succ]
            refine wpZ_f _ (.pointer (some ⟨(a.add (j * 2)).block, (a.add (j * 2)).off + 1, none⟩)) rfl rfl (fun X _ => by simp [go_sem]) ?_
            simp only [List.getElem_toArray, List.getElem_cons_zero, List.getElem_cons_succ, Act.put, List.setIfInBounds_toArray, List.set_cons_zero, List.set_cons_succ]
            refine wpZ_f _ (.int .i64 (kw j)) rfl rfl (fun X hX => by have e := c1' X hX; simp [go_sem, e]) ?_
            simp only [List.getElem_toArray, List.getElem_cons_zero, List.getElem_cons_succ, Act.put, List.setIfInBounds_toArray, List.set_cons_zero, List.set_cons_succ]
            refine wpZ_f _ (.int .i64 (q : Int)) rfl rfl (fun X _ => by simp [go_sem, wq]) ?_
            simp only [List.getElem_toArray, List.getElem_cons_zero, List.getElem_cons_succ, Act.put, List.setIfInBounds_toArray, List.set_cons_zero, List.set_cons_succ]
            refine wpZ_f _ (.pointer (some ⟨lb, q, none⟩)) rfl rfl (fun X _ => by simp [go_sem, q1]) ?_
            simp only [List.getElem_toArray, List.getElem_cons_zero, List.getElem_cons_succ, Act.put, List.setIfInBounds_toArray, List.set_cons_zero, List.set_cons_succ]
            refine wpZ_f _ (.string b) rfl rfl (fun X hX => by have e := lq X hX; simp [go_sem, e]) ?_
            simp only [List.getElem_toArray, List.getElem_cons_zero, List.getElem_cons_succ, Act.put, List.setIfInBounds_toArray, List.set_cons_zero, List.set_cons_succ]
            refine wpZ_f _ (.pointer (some ⟨R.bb, m * 2, none⟩)) rfl rfl (fun X _ => by simp [go_sem, m2]) ?_
            simp only [List.getElem_toArray, List.getElem_cons_zero, List.getElem_cons_succ, Act.put, List.setIfInBounds_toArray, List.set_cons_zero, List.set_cons_succ]
            refine wpZ_f _ (.pointer (some ⟨R.bb, m * 2, none⟩)) rfl rfl (fun X _ => by simp [go_sem]) ?_
            simp only [List.getElem_toArray, List.getElem_cons_zero, List.getElem_cons_succ, Act.put, List.setIfInBounds_toArray, List.set_cons_zero, List.set_cons_succ]
            refine wpZ_st _ (wd.setCell ⟨R.bb, m * 2, none⟩ (.string b)) rfl rfl (by simp [go_sem, eS, zS]) (fun _ => True) (.inl (by simp)) trivial ?_
            simp only [List.getElem_toArray, List.getElem_cons_zero, List.getElem_cons_succ, Act.put]
            refine wpZ_nil ?_
            clear e0 l1 lq c1' eS zS hD
            go_wp2
            exact ⟨⟨j + 1, by omega, by go_num, hS.out⟩, by simp [intOf]; omega⟩
          · have hS := hideit (hI.skip hpos)
            refine wpList_run rfl (.bool false) (by simp [go_sem, hpos]) ?_
            simp only [Act.put, List.setIfInBounds_toArray, List.set_cons_zero, List.set_cons_succ]
            clear c0 c1 hI
            go_wp2
            exact ⟨⟨j + 1, by omega, by go_num, hS.out⟩, by simp [intOf]; omega⟩
        · obtain rfl : j = i := by omega
          have j1 : ¬ (j : Int) < (j : Int) := by omega
          have hN0 : Hid (CnR G x s stp cl R.bb (crF s kb kw j) W 0 R wr) := ⟨hI.rd.congr rfl (fun m hm => rfl) (fun m hm => by show s.kc m = if m < 0 then 0 else s.kc m; rw [if_neg (Nat.not_lt_zero _)]) (fun m hm => rfl), rfl, hI.keeps⟩
          clear hI
          go_wp2
          go_loopw [10] (fun iv X => ∃ (i : Nat) (R1 : RM), i ≤ s.N ∧ iv = .int .i64 (i : Int) ∧ CnR G x s stp cl R.bb (crF s kb kw j) W i R1 X) (fun iv _ => 5000 - (intOf iv).toNat)
          case atStart => exact ⟨0, _, Nat.zero_le _, rfl, hN0.out⟩
          case round =>
            obtain ⟨i, R1, hi, rfl, hI⟩ := hrel
            clear hN0
            have e0 : wr.cell? ⟨x, 0, none⟩ = some (.slice (some ⟨R1.bb, 0, none⟩) s.N R1.cp) := hI.rd.c0
            by_cases hlt : i < s.N
            · have i1 : (i : Int) < (s.N : Int) := by omega
              have hS := hideit hI.step
              have hrr := hI.rd.row
              have eS := hrr.1 (i * 2 + 1) (by show i * 2 + 1 < s.N * 2; omega)
              have zS : wr.frozen? ⟨R1.bb, i * 2 + 1, none⟩ = false := hrr.2.1 (i * 2 + 1) (by show i * 2 + 1 < s.N * 2; omega)
              clear hrr hI
              go_upto_region 19 with (fail)
              refine wp_region_lit ?_
              refine wpList_run rfl (.int .i64 (i : Int)) (by simp [go_sem]) ?_
              simp only [Act.put, List.setIfInBounds_toArray, List.set_cons_zero, List.set_cons_succ]
              refine wpList_run rfl (.pointer (some ⟨x, 0, none⟩)) (by simp [go_sem]) ?_
              simp only [Act.put, List.setIfInBounds_toArray, List.set_cons_zero, List.set_cons_succ]
              refine wpList_run rfl (.pointer (some ⟨x, 0, none⟩)) (by simp [go_sem]) ?_
              simp only [Act.put, List.setIfInBounds_toArray, List.set_cons_zero, List.set_cons_succ]
              refine wpList_run rfl (.pointer (some ⟨x, 0, none⟩)) (by simp [go_sem]) ?_
              simp only [Act.put, List.setIfInBounds_toArray, List.set_cons_zero, List.set_cons_succ]
              refine wpList_run rfl (.slice (some ⟨R1.bb, 0, none⟩) s.N R1.cp) (by simp [go_sem, e0]) ?_
              simp only [Act.put, List.setIfInBounds_toArray, List.set_cons_zero, List.set_cons_succ]
              refine wpList_run rfl (.int .i64 (s.N : Int)) (by simp [go_sem]) ?_
              simp only [Act.put, List.setIfInBounds_toArray, List.set_cons_zero, List.set_cons_succ]
              refine wpList_run rfl (.bool true) (by simp [go_sem, i1]) ?_
              simp only [Act.put, List.setIfInBounds_toArray, List.set_cons_zero, List.set_cons_succ]
              go_upto_region 21 with (fail)
              refine wp_region_lit ?_
              refine wpList_run rfl (.pointer (some ⟨x, 0, none⟩)) (by simp [go_sem]) ?_
              simp only [Act.put, List.setIfInBounds_toArray, List.set_cons_zero, List.set_cons_succ]
              refine wpList_run rfl (.pointer (some ⟨x, 0, none⟩)) (by simp [go_sem]) ?_
              simp only [Act.put, List.setIfInBounds_toArray, List.set_cons_zero, List.set_cons_succ]
              refine wpList_run rfl (.pointer (some ⟨x, 0, none⟩)) (by simp [go_sem]) ?_
              simp only [Act.put, List.setIfInBounds_toArray, List.set_cons_zero, List.set_cons_succ]
              refine wpList_run rfl (.slice (some ⟨R1.bb, 0, none⟩) s.N R1.cp) (by simp [go_sem, e0]) ?_
              simp only [Act.put, List.setIfInBounds_toArray, List.set_cons_zero, List.set_cons_succ]
              refine wpList_run rfl (.int .i64 (i : Int)) (by simp [go_sem]) ?_
              simp only [Act.put, List.setIfInBounds_toArray, List.set_cons_zero, List.set_cons_succ]
              refine wpList_run rfl (.pointer (some ⟨R1.bb, i * 2, none⟩)) (by simp [go_sem, i1]) ?_
              simp only [Act.put, List.setIfInBounds_toArray, List.set_cons_zero, List.set_cons_succ]
              refine wpList_run rfl (.pointer (some ⟨R1.bb, i * 2 + 1, none⟩)) (by simp [go_sem]) ?_
              simp only [Act.put, List.setIfInBounds_toArray, List.set_cons_zero, List.set_cons_succ]
              refine wpList_st9 rfl (wr.setCell ⟨R1.bb, i * 2 + 1, none⟩ (.slice none 0 0)) (by simp [go_sem, eS, zS]) ?_
              simp only [Act.put]
              clear e0 eS zS
              go_wp2
              exact ⟨⟨i + 1, _, by omega, by go_num, hS.out⟩, by simp [intOf]; omega⟩
            · obtain rfl : i = s.N := by omega
              have hR : RdM G x (crR s kb kw j) stp cl R1 wr := hI.rd.congr rfl (fun m hm => rfl) (fun m hm => if_pos hm) (fun m hm => rfl)
              have e1 := hR.c1
              have z1 : wr.frozen? ⟨x, 1, none⟩ = false := hR.st.2.1 1 (by decide)
              obtain ⟨h2, k2⟩ := hR.set1 false
              rw [hI.isB] at k2
              have hF := hideit (And.intro h2 (hI.keeps.trans (F' := fun i => i = x ∨ i = R.bb) k2 fun i hi => .inl hi))
              have hbb := hideit hI.isB
              clear hR hI h2 k2
              go_upto_region 19 with (fail)
              refine wp_region_lit ?_
              refine wpList_run rfl (.int .i64 (s.N : Int)) (by simp [go_sem]) ?_
              simp only [Act.put, List.setIfInBounds_toArray, List.set_cons_zero, List.set_cons_succ]
              refine wpList_run rfl (.pointer (some ⟨x, 0, none⟩)) (by simp [go_sem]) ?_
              simp only [Act.put, List.setIfInBounds_toArray, List.set_cons_zero, List.set_cons_succ]
              refine wpList_run rfl (.pointer (some ⟨x, 0, none⟩)) (by simp [go_sem]) ?_
              simp only [Act.put, List.setIfInBounds_toArray, List.set_cons_zero, List.set_cons_succ]
              refine wpList_run rfl (.pointer (some ⟨x, 0, none⟩)) (by simp [go_sem]) ?_
              simp only [Act.put, List.setIfInBounds_toArray, List.set_cons_zero, List.set_cons_succ]
              refine wpList_run rfl (.slice (some ⟨R1.bb, 0, none⟩) s.N R1.cp) (by simp [go_sem, e0]) ?_
              simp only [Act.put, List.setIfInBounds_toArray, List.set_cons_zero, List.set_cons_succ]
              refine wpList_run rfl (.int .i64 (s.N : Int)) (by simp [go_sem]) ?_
              simp only [Act.put, List.setIfInBounds_toArray, List.set_cons_zero, List.set_cons_succ]
              refine wpList_run rfl (.bool false) (by simp [go_sem]) ?_
              simp only [Act.put, List.setIfInBounds_toArray, List.set_cons_zero, List.set_cons_succ]
              go_upto_region 22 with (fail)
              refine wp_region_lit ?_
              refine wpList_run rfl (.pointer (some ⟨x, 0, none⟩)) (by simp [go_sem]) ?_
              simp only [Act.put, List.setIfInBounds_toArray, List.set_cons_zero, List.set_cons_succ]
              refine wpList_run rfl (.pointer (some ⟨x, 0, none⟩)) (by simp [go_sem]) ?_
              simp only [Act.put, List.setIfInBounds_toArray, List.set_cons_zero, List.set_cons_succ]
              refine wpList_run rfl (.pointer (some ⟨x, 1, none⟩)) (by simp [go_sem]) ?_
              simp only [Act.put, List.setIfInBounds_toArray, List.set_cons_zero, List.set_cons_succ]
              refine wpList_st9 rfl (wr.setCell ⟨x, 1, none⟩ (.bool false)) (by simp [go_sem, e1, z1]) ?_
              simp only [Act.put]
              clear e0 e1 z1
              go_wp2
              go_ret
              exact ⟨rfl, R1, hbb.out, hF.out.1, hF.out.2⟩
end
end Go.Proofs.Ytfaeieaelfjlpaa
