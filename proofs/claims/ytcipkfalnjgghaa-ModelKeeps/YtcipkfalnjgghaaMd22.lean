/-
  A step of a rekey.
-/
import Derived.Test.YtcipkfalnjgghaaMd19
import Derived.Test.YtcipkfalnjgghaaPl8
import Derived.Test.YtcipkfalnjgghaaLadM
namespace Go.Proofs.Ytcipkfalnjgghaa
open Go.RowKit Go.BigFrame Go.Maps
set_option linter.unusedVariables false
theorem md_hd (h : Hd) (sb pb : Nat) (ep : Int) (r : Rt) (op : Bool) (sl : Int) (j : Nat) (hj : j < 24) : mdV h sb pb ep r op sl (0 + j) = hdv h j := by rw [Nat.zero_add]; unfold mdV; rw [if_pos hj]
theorem md_rt (h : Hd) (sb pb : Nat) (ep : Int) (r : Rt) (op : Bool) (sl : Int) (j : Nat) (hj : j < 35) : mdV h sb pb ep r op sl (27 + j) = rtv r j := by
  unfold mdV
  rw [if_neg (by omega), if_neg (by omega), if_neg (by omega), if_neg (by omega), if_pos (by omega), show 27 + j - 27 = j by omega]
theorem md_put (h : Hd) (sb pb : Nat) (ep : Int) (r r' : Rt) (op : Bool) (sl : Int) (j : Nat) : (if 27 ≤ j ∧ j < 27 + 35 then rtv r' (j - 27) else mdV h sb pb ep r op sl j) = mdV h sb pb ep r' op sl j := by
  unfold mdV
  by_cases e : 27 ≤ j ∧ j < 27 + 35
  · rw [if_pos e, if_neg (by omega), if_neg (by omega), if_neg (by omega), if_neg (by omega), if_pos (by omega)]
  · rw [if_neg e]
    by_cases h1 : j < 24
    · rw [if_pos h1, if_pos h1]
    · rw [if_neg h1, if_neg h1]
      by_cases h2 : j = 24
      · rw [if_pos h2, if_pos h2]
      · rw [if_neg h2, if_neg h2]
        by_cases h3 : j = 25
        · rw [if_pos h3, if_pos h3]
        · rw [if_neg h3, if_neg h3]
          by_cases h4 : j = 26
          · rw [if_pos h4, if_pos h4]
          · rw [if_neg h4, if_neg h4, if_neg (show ¬ j < 62 by omega), if_neg (show ¬ j < 62 by omega)]
theorem zero66 (w : World) : (zeroValue 66).run Try.prog w = .ok (.agg (row 35 (rtv rt0)).toArray) w := by kernel_rfl
theorem xstoreP {P : Program} {o : Oper} {a : Act} {w : World} (t : TypeId) (x y : Operand) (ho : o.op = .store t x y) (b off m : Nat) {n : Nat} (g g' : Nat → Value) (hx : a.eval x = .pointer (some ⟨b, off, none⟩)) (hy : a.eval y = .agg (row m g').toArray) (h : RowAt b n g w) (hm : off + m ≤ n)
    (hi : (P.info? t).map (·.size) = some m) (h1 : ∀ j, j < m → (g' j).oneCell' = true) : (execOp a.eval o).run P w = .ok .skip (w.setCells b off (row m g')) := by
  have ht : w.there b off m := fun j hj => by
    have h1 := h.1 (off + j) (by omega)
    have h2 := h.2.1 (off + j) (by omega)
    simp [h1, h2]
  unfold execOp
  simp only [ho, hx, hy, Instr.storeAt, Instr.sureAddr, Sem.run_bind, Sem.run_pure, Result.andThen_ok, run_storeVar_mid (P := P) w b off t (row m g').toArray (by rw [row_size]; exact ht) (by rw [row_size]; exact hi) (row_one h1)]
theorem Keeps.cells {F : Nat → Prop} {w : World} (b : Nat) (hb : F b ∨ w.heap.size ≤ b) : ∀ (vs : List Value) (o : Nat) (X : World), Keeps F w X → Keeps F w (X.setCells b o vs)
  | [], _, _, h => h
  | v :: r, o, X, h => by rw [World.setCells]; exact Keeps.cells b hb r (o + 1) _ (h.setCell hb _)
theorem ext_clR (W : World) : Cl Ext fun X => Ext W X := fun _ _ h k => Ext.trans h k
def mkR (B : Nat) (_ : Nat) (v : Value) (X : World) : Prop := ∃ b, v = .pointer (some ⟨b, 0, none⟩) ∧ B ≤ b ∧ RowAt b 35 (rtv rt0) X
theorem mkR_cl (B : Nat) (i : Nat) (v : Value) : Cl Ext (mkR B i v) := fun X Y h k => by
  obtain ⟨b, h1, h2, h3⟩ := h
  exact ⟨b, h1, h2, h3.carry k⟩
set_option maxRecDepth 20000 in
set_option maxHeartbeats 4000000 in
theorem step_idle (h : Hd) (sb pb : Nat) (ep : Int) (ct : BitVec 64) (fr : Int) (tr : Nat → BitVec 8) (op : Bool) (sl : Int) (p : Nat) (w : World) (hS : RowAt p 64 (mdV h sb pb ep ⟨ct, false, fr, tr⟩ op sl) w) (hk : okR h ⟨ct, false, fr, tr⟩)  : Calls Try.prog 27 #[.pointer (some ⟨p, 0, none⟩)] w fun e w' => e = .returned (.tuple #[.bool false, .int .i64 231]) ∧ Keeps (fun i => i = p) w w' ∧ RowAt p 64 (mdV h sb pb ep ⟨ct, false, fr, tr⟩ op sl) w' := by
  replace hS := hideit hS
  replace hk := hideit hk
  have hE := hideit (Keeps.refl (fun i => i = p) w)
  go_enter Try.func27, Try.ntmps27
  go_upto_region 1 with (fail)
  refine wp_region_ladm Ext (fun X => Ext w X) (mkR w.heap.size) [] [14] [(0, 0), (0, 1), (0, 2), (0, 3), (0, 4), (0, 5), (0, 6), (0, 7), (1, 8), (0, 9), (0, 10), (0, 11), (0, 12), (2, 13), (1, 14), (3, 15), (3, 16)] (by kernel_rfl) (by kernel_rfl) (by decide +kernel) (by decide +kernel) (by decide +kernel) (by decide +kernel) (mkR_cl _) (ext_clR w) ((Ext.refl w).draw) ?_
  refine wpQ_f _ (.pointer (some ⟨p, 0, none⟩)) rfl rfl (fun X _ => by simp [go_sem]) ?_
  simp only [List.getElem_toArray, List.getElem_cons_zero, Act.put, List.setIfInBounds_toArray, List.set_cons_zero, List.set_cons_succ]
  refine wpQ_f _ (.pointer (some ⟨p, 0, none⟩)) rfl rfl (fun X _ => by simp [go_sem]) ?_
  simp only [List.getElem_toArray, List.getElem_cons_zero, List.getElem_cons_succ, Act.put, List.setIfInBounds_toArray, List.set_cons_zero, List.set_cons_succ]
  refine wpQ_f _ (.pointer (some ⟨p, 0, none⟩)) rfl rfl (fun X _ => by simp [go_sem]) ?_
  simp only [List.getElem_toArray, List.getElem_cons_zero, List.getElem_cons_succ, Act.put, List.setIfInBounds_toArray, List.set_cons_zero, List.set_cons_succ]
  refine wpQ_f _ (.agg (row 24 (hdv h)).toArray) rfl rfl (fun X hX => xload 37 (.tmp 10) rfl p 0 24 (hdv h) rfl ((hS.out.carry hX).sub 0 24 (by decide) (hdv h) (md_hd h sb pb ep ⟨ct, false, fr, tr⟩ op sl)) Try.underlying37 rfl infoH) ?_
  simp only [List.getElem_toArray, List.getElem_cons_zero, List.getElem_cons_succ, Act.put, List.setIfInBounds_toArray, List.set_cons_zero, List.set_cons_succ]
  refine wpQ_f _ (.pointer (some ⟨p, 0, none⟩)) rfl rfl (fun X _ => by simp [go_sem]) ?_
  simp only [List.getElem_toArray, List.getElem_cons_zero, List.getElem_cons_succ, Act.put, List.setIfInBounds_toArray, List.set_cons_zero, List.set_cons_succ]
  refine wpQ_f _ (.pointer (some ⟨p, 0, none⟩)) rfl rfl (fun X _ => by simp [go_sem]) ?_
  simp only [List.getElem_toArray, List.getElem_cons_zero, List.getElem_cons_succ, Act.put, List.setIfInBounds_toArray, List.set_cons_zero, List.set_cons_succ]
  refine wpQ_f _ (.pointer (some ⟨p, 27, none⟩)) rfl rfl (fun X _ => by simp [go_sem]) ?_
  simp only [List.getElem_toArray, List.getElem_cons_zero, List.getElem_cons_succ, Act.put, List.setIfInBounds_toArray, List.set_cons_zero, List.set_cons_succ]
  refine wpQ_f _ (.agg (row 35 (rtv ⟨ct, false, fr, tr⟩)).toArray) rfl rfl (fun X hX => xload 66 (.tmp 14) rfl p 27 35 (rtv ⟨ct, false, fr, tr⟩) rfl ((hS.out.carry hX).sub 27 35 (by decide) (rtv ⟨ct, false, fr, tr⟩) (md_rt h sb pb ep ⟨ct, false, fr, tr⟩ op sl)) Try.underlying66 rfl infoR) ?_
  simp only [List.getElem_toArray, List.getElem_cons_zero, List.getElem_cons_succ, Act.put, List.setIfInBounds_toArray, List.set_cons_zero, List.set_cons_succ]
  refine wpQ_call (f := 60) (args := #[.agg (row 24 (hdv h)).toArray, .agg (row 35 (rtv ⟨ct, false, fr, tr⟩)).toArray]) _ rfl rfl (fun X hX => by simp [go_sem]) (fun X hX => (after_idle h ct fr tr X hk.out).mono ?_)
  rintro e w9 ⟨rfl, e9⟩
  refine ⟨_, rfl, fun Y => Ext w Y, Ext.trans hX e9, .inr (.inr ⟨fun Y hY => hY, e9, ext_clR w⟩), ?_⟩
  simp only [List.getElem_toArray, List.getElem_cons_zero, List.getElem_cons_succ, Act.put, List.setIfInBounds_toArray, List.set_cons_zero, List.set_cons_succ]
  clear e9 hX
  refine wpQ_f _ (.tuple #[.agg (row 35 (rtv rt0)).toArray, .bool false, .int .i64 231]) rfl rfl (fun X _ => by simp [go_sem]) ?_
  simp only [List.getElem_toArray, List.getElem_cons_zero, List.getElem_cons_succ, Act.put, List.setIfInBounds_toArray, List.set_cons_zero, List.set_cons_succ]
  refine wpQ_f _ (.agg (row 35 (rtv rt0)).toArray) rfl rfl (fun X _ => by simp [go_sem]) ?_
  simp only [List.getElem_toArray, List.getElem_cons_zero, List.getElem_cons_succ, Act.put, List.setIfInBounds_toArray, List.set_cons_zero, List.set_cons_succ]
  refine wpQ_f _ (.bool false) rfl rfl (fun X _ => by simp [go_sem]) ?_
  simp only [List.getElem_toArray, List.getElem_cons_zero, List.getElem_cons_succ, Act.put, List.setIfInBounds_toArray, List.set_cons_zero, List.set_cons_succ]
  refine wpQ_f _ (.int .i64 231) rfl rfl (fun X _ => by simp [go_sem]) ?_
  simp only [List.getElem_toArray, List.getElem_cons_zero, List.getElem_cons_succ, Act.put, List.setIfInBounds_toArray, List.set_cons_zero, List.set_cons_succ]
  refine wpQ_m _ rfl rfl (fun X hX => ⟨.pointer (some ⟨X.heap.size, 0, none⟩), X.alloc (.cells (row 35 (rtv rt0)).toArray 66), xalloc 66 _ rfl (zero66 _), ⟨X.heap.size, rfl, Below.size hX, RowAt.new X 35 (rtv rt0) 66⟩, (Below.refl _ _).alloc (Nat.le_refl _) _⟩) ?_
  rintro v5 ⟨_, _, b5, rfl, hb5, _⟩
  simp only [List.getElem_toArray, List.getElem_cons_zero, List.getElem_cons_succ, Act.put, List.setIfInBounds_toArray, List.set_cons_zero, List.set_cons_succ]
  refine wpQ_st _ rfl rfl fun X hX => ?_
  obtain ⟨hX1, b', f5, _, R5⟩ := hX
  injection f5 with f5
  injection f5 with f5
  injection f5 with f5
  subst f5
  have Nb5 := hideit (R5.cells (g' := rtv rt0))
  have NE := hideit (below_setCells b5 hb5 (row 35 (rtv rt0)) 0 _ hX1)
  refine ⟨X.setCells b5 0 (row 35 (rtv rt0)), xstore 66 (.tmp 4) (.tmp 17) rfl b5 35 _ (rtv rt0) rfl rfl R5 infoR (fun j _ => rtv_one _ j), fun Y => Y = X.setCells b5 0 (row 35 (rtv rt0)), rfl, .inr (.inl ⟨by simp, fun Y hY => by rw [hY]; exact NE.out⟩), ?_⟩
  simp only [List.getElem_toArray, List.getElem_cons_zero, List.getElem_cons_succ, Act.put]
  refine wpQ_g _ (.bool false) rfl rfl (fun X _ => by simp [go_sem]) ?_
  simp only [List.getElem_toArray, List.getElem_cons_zero, List.getElem_cons_succ, Act.put, List.setIfInBounds_toArray, List.set_cons_zero, List.set_cons_succ]
  refine wpQ_g _ (.int .i64 231) rfl rfl (fun X _ => by simp [go_sem]) ?_
  simp only [List.getElem_toArray, List.getElem_cons_zero, List.getElem_cons_succ, Act.put, List.setIfInBounds_toArray, List.set_cons_zero, List.set_cons_succ]
  refine wpQ_nil fun Y hY => ?_
  rw [← hY] at Nb5 NE
  clear hY R5 hX1
  have nb5 : Hid (p ≠ b5) := by have := hS.out.2.2; show p ≠ b5; omega
  replace hS := hideit (hS.out.carry NE.out)
  replace hE := hideit (Keeps.ext hE.out NE.out)
  clear NE
  go_upto_region 2 with (fail)
  refine wp_region_lit ?_
  refine xm [some (.int .i64 231), some (.bool true)] (by kernel_rfl) (by simp [xr, go_sem]) ?_
  simp only [xw, p0, p1, p2, p3]
  go_upto_region 3 with (fail)
  refine wp_region_lit ?_
  refine xm [some (.int .i64 231), some (.bool false), some (.int .i64 231)] (by kernel_rfl) (by simp [xr, go_sem]) ?_
  simp only [xw, p0, p1, p2, p3]
  go_wp2
  refine bodyPost_ret (res2 rfl _ _ _) rfl ?_
  exact ⟨rfl, hE.out, hS.out⟩
set_option maxRecDepth 20000 in
set_option maxHeartbeats 4000000 in
theorem step_end (h : Hd) (sb pb : Nat) (ep : Int) (ct : BitVec 64) (fr : Int) (tr : Nat → BitVec 8) (op : Bool) (sl : Int) (p : Nat) (w : World) (hS : RowAt p 64 (mdV h sb pb ep ⟨ct, true, fr, tr⟩ op sl) w) (hk : okR h ⟨ct, true, fr, tr⟩) (a1 : Hid (nxT h fr = h.se)) (a2 : Hid (¬ nxT h fr < h.se)) : Calls Try.prog 27 #[.pointer (some ⟨p, 0, none⟩)] w fun e w' => e = .returned (.tuple #[.bool true, .int .i64 0]) ∧ Keeps (fun i => i = p) w w' ∧ RowAt p 64 (mdV h sb pb ep ⟨ct + 1#64 + 1#64, false, 0, tr⟩ op sl) w' := by
  replace hS := hideit hS
  replace hk := hideit hk
  have hE := hideit (Keeps.refl (fun i => i = p) w)
  go_enter Try.func27, Try.ntmps27
  go_upto_region 1 with (fail)
  refine wp_region_ladm Ext (fun X => Ext w X) (mkR w.heap.size) [] [14] [(0, 0), (0, 1), (0, 2), (0, 3), (0, 4), (0, 5), (0, 6), (0, 7), (1, 8), (0, 9), (0, 10), (0, 11), (0, 12), (2, 13), (1, 14), (3, 15), (3, 16)] (by kernel_rfl) (by kernel_rfl) (by decide +kernel) (by decide +kernel) (by decide +kernel) (by decide +kernel) (mkR_cl _) (ext_clR w) ((Ext.refl w).draw) ?_
  refine wpQ_f _ (.pointer (some ⟨p, 0, none⟩)) rfl rfl (fun X _ => by simp [go_sem]) ?_
  simp only [List.getElem_toArray, List.getElem_cons_zero, Act.put, List.setIfInBounds_toArray, List.set_cons_zero, List.set_cons_succ]
  refine wpQ_f _ (.pointer (some ⟨p, 0, none⟩)) rfl rfl (fun X _ => by simp [go_sem]) ?_
  simp only [List.getElem_toArray, List.getElem_cons_zero, List.getElem_cons_succ, Act.put, List.setIfInBounds_toArray, List.set_cons_zero, List.set_cons_succ]
  refine wpQ_f _ (.pointer (some ⟨p, 0, none⟩)) rfl rfl (fun X _ => by simp [go_sem]) ?_
  simp only [List.getElem_toArray, List.getElem_cons_zero, List.getElem_cons_succ, Act.put, List.setIfInBounds_toArray, List.set_cons_zero, List.set_cons_succ]
  refine wpQ_f _ (.agg (row 24 (hdv h)).toArray) rfl rfl (fun X hX => xload 37 (.tmp 10) rfl p 0 24 (hdv h) rfl ((hS.out.carry hX).sub 0 24 (by decide) (hdv h) (md_hd h sb pb ep ⟨ct, true, fr, tr⟩ op sl)) Try.underlying37 rfl infoH) ?_
  simp only [List.getElem_toArray, List.getElem_cons_zero, List.getElem_cons_succ, Act.put, List.setIfInBounds_toArray, List.set_cons_zero, List.set_cons_succ]
  refine wpQ_f _ (.pointer (some ⟨p, 0, none⟩)) rfl rfl (fun X _ => by simp [go_sem]) ?_
  simp only [List.getElem_toArray, List.getElem_cons_zero, List.getElem_cons_succ, Act.put, List.setIfInBounds_toArray, List.set_cons_zero, List.set_cons_succ]
  refine wpQ_f _ (.pointer (some ⟨p, 0, none⟩)) rfl rfl (fun X _ => by simp [go_sem]) ?_
  simp only [List.getElem_toArray, List.getElem_cons_zero, List.getElem_cons_succ, Act.put, List.setIfInBounds_toArray, List.set_cons_zero, List.set_cons_succ]
  refine wpQ_f _ (.pointer (some ⟨p, 27, none⟩)) rfl rfl (fun X _ => by simp [go_sem]) ?_
  simp only [List.getElem_toArray, List.getElem_cons_zero, List.getElem_cons_succ, Act.put, List.setIfInBounds_toArray, List.set_cons_zero, List.set_cons_succ]
  refine wpQ_f _ (.agg (row 35 (rtv ⟨ct, true, fr, tr⟩)).toArray) rfl rfl (fun X hX => xload 66 (.tmp 14) rfl p 27 35 (rtv ⟨ct, true, fr, tr⟩) rfl ((hS.out.carry hX).sub 27 35 (by decide) (rtv ⟨ct, true, fr, tr⟩) (md_rt h sb pb ep ⟨ct, true, fr, tr⟩ op sl)) Try.underlying66 rfl infoR) ?_
  simp only [List.getElem_toArray, List.getElem_cons_zero, List.getElem_cons_succ, Act.put, List.setIfInBounds_toArray, List.set_cons_zero, List.set_cons_succ]
  refine wpQ_call (f := 60) (args := #[.agg (row 24 (hdv h)).toArray, .agg (row 35 (rtv ⟨ct, true, fr, tr⟩)).toArray]) _ rfl rfl (fun X hX => by simp [go_sem]) (fun X hX => (after_end h ct fr tr X hk.out a1 a2).mono ?_)
  rintro e w9 ⟨rfl, e9⟩
  refine ⟨_, rfl, fun Y => Ext w Y, Ext.trans hX e9, .inr (.inr ⟨fun Y hY => hY, e9, ext_clR w⟩), ?_⟩
  simp only [List.getElem_toArray, List.getElem_cons_zero, List.getElem_cons_succ, Act.put, List.setIfInBounds_toArray, List.set_cons_zero, List.set_cons_succ]
  clear e9 hX
  refine wpQ_f _ (.tuple #[.agg (row 35 (rtv ⟨ct, false, 0, tr⟩)).toArray, .bool true, .int .i64 0]) rfl rfl (fun X _ => by simp [go_sem]) ?_
  simp only [List.getElem_toArray, List.getElem_cons_zero, List.getElem_cons_succ, Act.put, List.setIfInBounds_toArray, List.set_cons_zero, List.set_cons_succ]
  refine wpQ_f _ (.agg (row 35 (rtv ⟨ct, false, 0, tr⟩)).toArray) rfl rfl (fun X _ => by simp [go_sem]) ?_
  simp only [List.getElem_toArray, List.getElem_cons_zero, List.getElem_cons_succ, Act.put, List.setIfInBounds_toArray, List.set_cons_zero, List.set_cons_succ]
  refine wpQ_f _ (.bool true) rfl rfl (fun X _ => by simp [go_sem]) ?_
  simp only [List.getElem_toArray, List.getElem_cons_zero, List.getElem_cons_succ, Act.put, List.setIfInBounds_toArray, List.set_cons_zero, List.set_cons_succ]
  refine wpQ_f _ (.int .i64 0) rfl rfl (fun X _ => by simp [go_sem]) ?_
  simp only [List.getElem_toArray, List.getElem_cons_zero, List.getElem_cons_succ, Act.put, List.setIfInBounds_toArray, List.set_cons_zero, List.set_cons_succ]
  refine wpQ_m _ rfl rfl (fun X hX => ⟨.pointer (some ⟨X.heap.size, 0, none⟩), X.alloc (.cells (row 35 (rtv rt0)).toArray 66), xalloc 66 _ rfl (zero66 _), ⟨X.heap.size, rfl, Below.size hX, RowAt.new X 35 (rtv rt0) 66⟩, (Below.refl _ _).alloc (Nat.le_refl _) _⟩) ?_
  rintro v5 ⟨_, _, b5, rfl, hb5, _⟩
  simp only [List.getElem_toArray, List.getElem_cons_zero, List.getElem_cons_succ, Act.put, List.setIfInBounds_toArray, List.set_cons_zero, List.set_cons_succ]
  refine wpQ_st _ rfl rfl fun X hX => ?_
  obtain ⟨hX1, b', f5, _, R5⟩ := hX
  injection f5 with f5
  injection f5 with f5
  injection f5 with f5
  subst f5
  have Nb5 := hideit (R5.cells (g' := rtv ⟨ct, false, 0, tr⟩))
  have NE := hideit (below_setCells b5 hb5 (row 35 (rtv ⟨ct, false, 0, tr⟩)) 0 _ hX1)
  refine ⟨X.setCells b5 0 (row 35 (rtv ⟨ct, false, 0, tr⟩)), xstore 66 (.tmp 4) (.tmp 17) rfl b5 35 _ (rtv ⟨ct, false, 0, tr⟩) rfl rfl R5 infoR (fun j _ => rtv_one _ j), fun Y => Y = X.setCells b5 0 (row 35 (rtv ⟨ct, false, 0, tr⟩)), rfl, .inr (.inl ⟨by simp, fun Y hY => by rw [hY]; exact NE.out⟩), ?_⟩
  simp only [List.getElem_toArray, List.getElem_cons_zero, List.getElem_cons_succ, Act.put]
  refine wpQ_g _ (.bool true) rfl rfl (fun X _ => by simp [go_sem]) ?_
  simp only [List.getElem_toArray, List.getElem_cons_zero, List.getElem_cons_succ, Act.put, List.setIfInBounds_toArray, List.set_cons_zero, List.set_cons_succ]
  refine wpQ_g _ (.int .i64 0) rfl rfl (fun X _ => by simp [go_sem]) ?_
  simp only [List.getElem_toArray, List.getElem_cons_zero, List.getElem_cons_succ, Act.put, List.setIfInBounds_toArray, List.set_cons_zero, List.set_cons_succ]
  refine wpQ_nil fun Y hY => ?_
  rw [← hY] at Nb5 NE
  clear hY R5 hX1
  have nb5 : Hid (p ≠ b5) := by have := hS.out.2.2; show p ≠ b5; omega
  replace hS := hideit (hS.out.carry NE.out)
  replace hE := hideit (Keeps.ext hE.out NE.out)
  clear NE
  go_upto_region 2 with (fail)
  refine wp_region_lit ?_
  refine xm [some (.int .i64 0), some (.bool false)] (by kernel_rfl) (by simp [xr, go_sem]) ?_
  simp only [xw, p0, p1, p2, p3]
  go_upto_region 4 with (fail)
  refine wp_region_lit ?_
  refine xm [some (.pointer (some ⟨p, 0, none⟩))] (by kernel_rfl) (by simp [xr, go_sem]) ?_
  simp only [xw, p0, p1, p2, p3]
  refine wpList_run rfl (.agg (row 35 (rtv ⟨ct, false, 0, tr⟩)).toArray) (xload 66 (.tmp 4) rfl b5 0 35 _ rfl Nb5.out.range Try.underlying66 rfl infoR) ?_
  simp only [Act.put, List.setIfInBounds_toArray, List.set_cons_zero, List.set_cons_succ]
  refine xm [some (.pointer (some ⟨p, 0, none⟩)), some (.pointer (some ⟨p, 27, none⟩))] (by kernel_rfl) (by simp [xr, go_sem]) ?_
  simp only [xw, p0, p1, p2, p3]
  have N0 := hideit (hS.out.part 27 35 (rtv ⟨ct, false, 0, tr⟩) (by decide))
  have N1 := hideit (Nb5.out.cellsOther (nb5.out) (row 35 (rtv ⟨ct, false, 0, tr⟩)) 27)
  have NE := hideit (Keeps.cells (F := (fun i => i = p)) p (.inl rfl) (row 35 (rtv ⟨ct, false, 0, tr⟩)) 27 _ hE.out)
  refine xst rfl (Y.setCells p 27 (row 35 (rtv ⟨ct, false, 0, tr⟩))) (xstoreP 66 (.tmp 26) (.tmp 24) rfl p 27 35 _ (rtv ⟨ct, false, 0, tr⟩) rfl rfl hS.out (by decide) infoR (fun j _ => rtv_one _ j)) ?_
  simp only [Act.put]
  generalize Y.setCells p 27 (row 35 (rtv ⟨ct, false, 0, tr⟩)) = x1 at N0 N1 NE ⊢
  replace N0 := hideit (N0.out.congr (g' := mdV h sb pb ep ⟨ct, false, 0, tr⟩ op sl) (fun j _ => md_put h sb pb ep ⟨ct, true, fr, tr⟩ ⟨ct, false, 0, tr⟩ op sl j))
  replace hS := N0
  replace Nb5 := N1
  replace hE := NE
  clear N0 N1 NE
  clear Nb5
  go_upto_region 5 with (fail)
  refine wp_region_lit ?_
  refine xm [some (.pointer (some ⟨p, 0, none⟩))] (by kernel_rfl) (by simp [xr, go_sem]) ?_
  simp only [xw, p0, p1, p2, p3]
  refine wpList_call rfl (by simp [go_sem]) ((count_any h sb pb ep ⟨ct, false, 0, tr⟩ op sl p x1 hS.out).mono ?_)
  rintro e yc2 ⟨rfl, hKc, hSc⟩
  refine ⟨_, rfl, ?_⟩
  simp only [Act.put, List.setIfInBounds_toArray, List.set_cons_zero, List.set_cons_succ]
  replace hS := hideit hSc
  replace hE := hideit (hE.out.trans hKc fun i hi => .inl hi)
  clear hKc hSc
  go_upto_region 6 with (fail)
  refine wp_region_lit ?_
  refine xm [some (.bool true)] (by kernel_rfl) (by simp [xr, go_sem]) ?_
  simp only [xw, p0, p1, p2, p3]
  go_upto_region 7 with (fail)
  refine wp_region_lit ?_
  refine xm [some (.pointer (some ⟨p, 0, none⟩))] (by kernel_rfl) (by simp [xr, go_sem]) ?_
  simp only [xw, p0, p1, p2, p3]
  refine wpList_call rfl (by simp [go_sem]) ((count_any h sb pb ep ⟨ct + 1#64, false, 0, tr⟩ op sl p yc2 hS.out).mono ?_)
  rintro e yc3 ⟨rfl, hKc, hSc⟩
  refine ⟨_, rfl, ?_⟩
  simp only [Act.put, List.setIfInBounds_toArray, List.set_cons_zero, List.set_cons_succ]
  replace hS := hideit hSc
  replace hE := hideit (hE.out.trans hKc fun i hi => .inl hi)
  clear hKc hSc
  go_upto_region 8 with (fail)
  refine wp_region_lit ?_
  refine xm [some (.bool true), some (.bool true), some (.int .i64 0)] (by kernel_rfl) (by simp [xr, go_sem]) ?_
  simp only [xw, p0, p1, p2, p3]
  go_wp2
  refine bodyPost_ret (res2 rfl _ _ _) rfl ?_
  exact ⟨rfl, hE.out, hS.out⟩
set_option maxRecDepth 20000 in
set_option maxHeartbeats 4000000 in
theorem step_on (h : Hd) (sb pb : Nat) (ep : Int) (ct : BitVec 64) (fr : Int) (tr : Nat → BitVec 8) (op : Bool) (sl : Int) (p : Nat) (w : World) (hS : RowAt p 64 (mdV h sb pb ep ⟨ct, true, fr, tr⟩ op sl) w) (hk : okR h ⟨ct, true, fr, tr⟩) (a1 : Hid (¬ nxT h fr = h.se)) (a2 : Hid (nxT h fr < h.se)) : Calls Try.prog 27 #[.pointer (some ⟨p, 0, none⟩)] w fun e w' => e = .returned (.tuple #[.bool false, .int .i64 0]) ∧ Keeps (fun i => i = p) w w' ∧ RowAt p 64 (mdV h sb pb ep ⟨ct + 1#64, true, nxT h fr, tr⟩ op sl) w' := by
  replace hS := hideit hS
  replace hk := hideit hk
  have hE := hideit (Keeps.refl (fun i => i = p) w)
  go_enter Try.func27, Try.ntmps27
  go_upto_region 1 with (fail)
  refine wp_region_ladm Ext (fun X => Ext w X) (mkR w.heap.size) [] [14] [(0, 0), (0, 1), (0, 2), (0, 3), (0, 4), (0, 5), (0, 6), (0, 7), (1, 8), (0, 9), (0, 10), (0, 11), (0, 12), (2, 13), (1, 14), (3, 15), (3, 16)] (by kernel_rfl) (by kernel_rfl) (by decide +kernel) (by decide +kernel) (by decide +kernel) (by decide +kernel) (mkR_cl _) (ext_clR w) ((Ext.refl w).draw) ?_
  refine wpQ_f _ (.pointer (some ⟨p, 0, none⟩)) rfl rfl (fun X _ => by simp [go_sem]) ?_
  simp only [List.getElem_toArray, List.getElem_cons_zero, Act.put, List.setIfInBounds_toArray, List.set_cons_zero, List.set_cons_succ]
  refine wpQ_f _ (.pointer (some ⟨p, 0, none⟩)) rfl rfl (fun X _ => by simp [go_sem]) ?_
  simp only [List.getElem_toArray, List.getElem_cons_zero, List.getElem_cons_succ, Act.put, List.setIfInBounds_toArray, List.set_cons_zero, List.set_cons_succ]
  refine wpQ_f _ (.pointer (some ⟨p, 0, none⟩)) rfl rfl (fun X _ => by simp [go_sem]) ?_
  simp only [List.getElem_toArray, List.getElem_cons_zero, List.getElem_cons_succ, Act.put, List.setIfInBounds_toArray, List.set_cons_zero, List.set_cons_succ]
  refine wpQ_f _ (.agg (row 24 (hdv h)).toArray) rfl rfl (fun X hX => xload 37 (.tmp 10) rfl p 0 24 (hdv h) rfl ((hS.out.carry hX).sub 0 24 (by decide) (hdv h) (md_hd h sb pb ep ⟨ct, true, fr, tr⟩ op sl)) Try.underlying37 rfl infoH) ?_
  simp only [List.getElem_toArray, List.getElem_cons_zero, List.getElem_cons_succ, Act.put, List.setIfInBounds_toArray, List.set_cons_zero, List.set_cons_succ]
  refine wpQ_f _ (.pointer (some ⟨p, 0, none⟩)) rfl rfl (fun X _ => by simp [go_sem]) ?_
  simp only [List.getElem_toArray, List.getElem_cons_zero, List.getElem_cons_succ, Act.put, List.setIfInBounds_toArray, List.set_cons_zero, List.set_cons_succ]
  refine wpQ_f _ (.pointer (some ⟨p, 0, none⟩)) rfl rfl (fun X _ => by simp [go_sem]) ?_
  simp only [List.getElem_toArray, List.getElem_cons_zero, List.getElem_cons_succ, Act.put, List.setIfInBounds_toArray, List.set_cons_zero, List.set_cons_succ]
  refine wpQ_f _ (.pointer (some ⟨p, 27, none⟩)) rfl rfl (fun X _ => by simp [go_sem]) ?_
  simp only [List.getElem_toArray, List.getElem_cons_zero, List.getElem_cons_succ, Act.put, List.setIfInBounds_toArray, List.set_cons_zero, List.set_cons_succ]
  refine wpQ_f _ (.agg (row 35 (rtv ⟨ct, true, fr, tr⟩)).toArray) rfl rfl (fun X hX => xload 66 (.tmp 14) rfl p 27 35 (rtv ⟨ct, true, fr, tr⟩) rfl ((hS.out.carry hX).sub 27 35 (by decide) (rtv ⟨ct, true, fr, tr⟩) (md_rt h sb pb ep ⟨ct, true, fr, tr⟩ op sl)) Try.underlying66 rfl infoR) ?_
  simp only [List.getElem_toArray, List.getElem_cons_zero, List.getElem_cons_succ, Act.put, List.setIfInBounds_toArray, List.set_cons_zero, List.set_cons_succ]
  refine wpQ_call (f := 60) (args := #[.agg (row 24 (hdv h)).toArray, .agg (row 35 (rtv ⟨ct, true, fr, tr⟩)).toArray]) _ rfl rfl (fun X hX => by simp [go_sem]) (fun X hX => (after_on h ct fr tr X hk.out a1 a2).mono ?_)
  rintro e w9 ⟨rfl, e9⟩
  refine ⟨_, rfl, fun Y => Ext w Y, Ext.trans hX e9, .inr (.inr ⟨fun Y hY => hY, e9, ext_clR w⟩), ?_⟩
  simp only [List.getElem_toArray, List.getElem_cons_zero, List.getElem_cons_succ, Act.put, List.setIfInBounds_toArray, List.set_cons_zero, List.set_cons_succ]
  clear e9 hX
  refine wpQ_f _ (.tuple #[.agg (row 35 (rtv ⟨ct, true, nxT h fr, tr⟩)).toArray, .bool false, .int .i64 0]) rfl rfl (fun X _ => by simp [go_sem]) ?_
  simp only [List.getElem_toArray, List.getElem_cons_zero, List.getElem_cons_succ, Act.put, List.setIfInBounds_toArray, List.set_cons_zero, List.set_cons_succ]
  refine wpQ_f _ (.agg (row 35 (rtv ⟨ct, true, nxT h fr, tr⟩)).toArray) rfl rfl (fun X _ => by simp [go_sem]) ?_
  simp only [List.getElem_toArray, List.getElem_cons_zero, List.getElem_cons_succ, Act.put, List.setIfInBounds_toArray, List.set_cons_zero, List.set_cons_succ]
  refine wpQ_f _ (.bool false) rfl rfl (fun X _ => by simp [go_sem]) ?_
  simp only [List.getElem_toArray, List.getElem_cons_zero, List.getElem_cons_succ, Act.put, List.setIfInBounds_toArray, List.set_cons_zero, List.set_cons_succ]
  refine wpQ_f _ (.int .i64 0) rfl rfl (fun X _ => by simp [go_sem]) ?_
  simp only [List.getElem_toArray, List.getElem_cons_zero, List.getElem_cons_succ, Act.put, List.setIfInBounds_toArray, List.set_cons_zero, List.set_cons_succ]
  refine wpQ_m _ rfl rfl (fun X hX => ⟨.pointer (some ⟨X.heap.size, 0, none⟩), X.alloc (.cells (row 35 (rtv rt0)).toArray 66), xalloc 66 _ rfl (zero66 _), ⟨X.heap.size, rfl, Below.size hX, RowAt.new X 35 (rtv rt0) 66⟩, (Below.refl _ _).alloc (Nat.le_refl _) _⟩) ?_
  rintro v5 ⟨_, _, b5, rfl, hb5, _⟩
  simp only [List.getElem_toArray, List.getElem_cons_zero, List.getElem_cons_succ, Act.put, List.setIfInBounds_toArray, List.set_cons_zero, List.set_cons_succ]
  refine wpQ_st _ rfl rfl fun X hX => ?_
  obtain ⟨hX1, b', f5, _, R5⟩ := hX
  injection f5 with f5
  injection f5 with f5
  injection f5 with f5
  subst f5
  have Nb5 := hideit (R5.cells (g' := rtv ⟨ct, true, nxT h fr, tr⟩))
  have NE := hideit (below_setCells b5 hb5 (row 35 (rtv ⟨ct, true, nxT h fr, tr⟩)) 0 _ hX1)
  refine ⟨X.setCells b5 0 (row 35 (rtv ⟨ct, true, nxT h fr, tr⟩)), xstore 66 (.tmp 4) (.tmp 17) rfl b5 35 _ (rtv ⟨ct, true, nxT h fr, tr⟩) rfl rfl R5 infoR (fun j _ => rtv_one _ j), fun Y => Y = X.setCells b5 0 (row 35 (rtv ⟨ct, true, nxT h fr, tr⟩)), rfl, .inr (.inl ⟨by simp, fun Y hY => by rw [hY]; exact NE.out⟩), ?_⟩
  simp only [List.getElem_toArray, List.getElem_cons_zero, List.getElem_cons_succ, Act.put]
  refine wpQ_g _ (.bool false) rfl rfl (fun X _ => by simp [go_sem]) ?_
  simp only [List.getElem_toArray, List.getElem_cons_zero, List.getElem_cons_succ, Act.put, List.setIfInBounds_toArray, List.set_cons_zero, List.set_cons_succ]
  refine wpQ_g _ (.int .i64 0) rfl rfl (fun X _ => by simp [go_sem]) ?_
  simp only [List.getElem_toArray, List.getElem_cons_zero, List.getElem_cons_succ, Act.put, List.setIfInBounds_toArray, List.set_cons_zero, List.set_cons_succ]
  refine wpQ_nil fun Y hY => ?_
  rw [← hY] at Nb5 NE
  clear hY R5 hX1
  have nb5 : Hid (p ≠ b5) := by have := hS.out.2.2; show p ≠ b5; omega
  replace hS := hideit (hS.out.carry NE.out)
  replace hE := hideit (Keeps.ext hE.out NE.out)
  clear NE
  go_upto_region 2 with (fail)
  refine wp_region_lit ?_
  refine xm [some (.int .i64 0), some (.bool false)] (by kernel_rfl) (by simp [xr, go_sem]) ?_
  simp only [xw, p0, p1, p2, p3]
  go_upto_region 4 with (fail)
  refine wp_region_lit ?_
  refine xm [some (.pointer (some ⟨p, 0, none⟩))] (by kernel_rfl) (by simp [xr, go_sem]) ?_
  simp only [xw, p0, p1, p2, p3]
  refine wpList_run rfl (.agg (row 35 (rtv ⟨ct, true, nxT h fr, tr⟩)).toArray) (xload 66 (.tmp 4) rfl b5 0 35 _ rfl Nb5.out.range Try.underlying66 rfl infoR) ?_
  simp only [Act.put, List.setIfInBounds_toArray, List.set_cons_zero, List.set_cons_succ]
  refine xm [some (.pointer (some ⟨p, 0, none⟩)), some (.pointer (some ⟨p, 27, none⟩))] (by kernel_rfl) (by simp [xr, go_sem]) ?_
  simp only [xw, p0, p1, p2, p3]
  have N0 := hideit (hS.out.part 27 35 (rtv ⟨ct, true, nxT h fr, tr⟩) (by decide))
  have N1 := hideit (Nb5.out.cellsOther (nb5.out) (row 35 (rtv ⟨ct, true, nxT h fr, tr⟩)) 27)
  have NE := hideit (Keeps.cells (F := (fun i => i = p)) p (.inl rfl) (row 35 (rtv ⟨ct, true, nxT h fr, tr⟩)) 27 _ hE.out)
  refine xst rfl (Y.setCells p 27 (row 35 (rtv ⟨ct, true, nxT h fr, tr⟩))) (xstoreP 66 (.tmp 26) (.tmp 24) rfl p 27 35 _ (rtv ⟨ct, true, nxT h fr, tr⟩) rfl rfl hS.out (by decide) infoR (fun j _ => rtv_one _ j)) ?_
  simp only [Act.put]
  generalize Y.setCells p 27 (row 35 (rtv ⟨ct, true, nxT h fr, tr⟩)) = x1 at N0 N1 NE ⊢
  replace N0 := hideit (N0.out.congr (g' := mdV h sb pb ep ⟨ct, true, nxT h fr, tr⟩ op sl) (fun j _ => md_put h sb pb ep ⟨ct, true, fr, tr⟩ ⟨ct, true, nxT h fr, tr⟩ op sl j))
  replace hS := N0
  replace Nb5 := N1
  replace hE := NE
  clear N0 N1 NE
  clear Nb5
  go_upto_region 5 with (fail)
  refine wp_region_lit ?_
  refine xm [some (.pointer (some ⟨p, 0, none⟩))] (by kernel_rfl) (by simp [xr, go_sem]) ?_
  simp only [xw, p0, p1, p2, p3]
  refine wpList_call rfl (by simp [go_sem]) ((count_any h sb pb ep ⟨ct, true, nxT h fr, tr⟩ op sl p x1 hS.out).mono ?_)
  rintro e yc2 ⟨rfl, hKc, hSc⟩
  refine ⟨_, rfl, ?_⟩
  simp only [Act.put, List.setIfInBounds_toArray, List.set_cons_zero, List.set_cons_succ]
  replace hS := hideit hSc
  replace hE := hideit (hE.out.trans hKc fun i hi => .inl hi)
  clear hKc hSc
  go_upto_region 6 with (fail)
  refine wp_region_lit ?_
  refine xm [some (.bool false)] (by kernel_rfl) (by simp [xr, go_sem]) ?_
  simp only [xw, p0, p1, p2, p3]
  go_upto_region 8 with (fail)
  refine wp_region_lit ?_
  refine xm [some (.bool false), some (.bool false), some (.int .i64 0)] (by kernel_rfl) (by simp [xr, go_sem]) ?_
  simp only [xw, p0, p1, p2, p3]
  go_wp2
  refine bodyPost_ret (res2 rfl _ _ _) rfl ?_
  exact ⟨rfl, hE.out, hS.out⟩
end Go.Proofs.Ytcipkfalnjgghaa
