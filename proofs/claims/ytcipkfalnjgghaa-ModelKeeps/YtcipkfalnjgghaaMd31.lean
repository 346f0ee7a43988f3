/-
  Md26, Md27, Md28, Md29, Md30, Md31 in one.
-/
import Derived.Test.YtcipkfalnjgghaaMd25
import Derived.Test.YtcipkfalnjgghaaMdS
import Derived.Test.YtcipkfalnjgghaaMd11
import Derived.Test.YtcipkfalnjgghaaMd22
import Derived.Test.YtcipkfalnjgghaaMdO
import Derived.Test.YtcipkfalnjgghaaMd19
import Derived.Test.YtcipkfalnjgghaaMd21
import Derived.Test.YtcipkfalnjgghaaMd23
import Derived.Test.YtcipkfalnjgghaaMd17
import Derived.Test.YtcipkfalnjgghaaMd18
namespace Go.Proofs.Ytcipkfalnjgghaa
open Go.RowKit Go.BigFrame Go.Maps
set_option linter.unusedVariables false
theorem md_one (h : Hd) (sb pb : Nat) (ep : Int) (r : Rt) (op : Bool) (sl : Int) (j : Nat) : (mdV h sb pb ep r op sl j).oneCell' = true := by
  unfold mdV
  by_cases h1 : j < 24
  · rw [if_pos h1]; exact hdv_one _ _
  · rw [if_neg h1]
    by_cases h2 : j = 24
    · rw [if_pos h2]; rfl
    · rw [if_neg h2]
      by_cases h3 : j = 25
      · rw [if_pos h3]; rfl
      · rw [if_neg h3]
        by_cases h4 : j = 26
        · rw [if_pos h4]; rfl
        · rw [if_neg h4]
          by_cases h5 : j < 62
          · rw [if_pos h5]; exact rtv_one _ _
          · rw [if_neg h5]
            by_cases h6 : j = 62
            · rw [if_pos h6]; rfl
            · rw [if_neg h6]; rfl
def zMV : Nat → Value := fun j => if j < 24 then hdv zH j else if j = 24 then .map none else if j = 25 then .map none else if j = 26 then .int .i64 0 else if j < 62 then rtv rt0 (j - 27) else if j = 62 then .bool false else .int .i64 0
theorem zero68 (w : World) : (zeroValue 68).run Try.prog w = .ok (.agg (row 64 zMV).toArray) w := by kernel_rfl
/-- a block that is not one of bytes -/
structure NBk (q : Nat) (W : World) : Prop where
  lt : q < W.heap.size
  nb : ¬ IsB q W
theorem NBk.keep {F : Nat → Prop} {q : Nat} {W Y : World} (h : NBk q W) (k : Keeps F W Y) : NBk q Y := ⟨Nat.lt_of_lt_of_le h.lt k.size, fun e => h.nb (k.bk q h.lt e)⟩
theorem NBk.ext {q : Nat} {W Y : World} (h : NBk q W) (k : Ext W Y) : NBk q Y := h.keep (F := fun _ => False) (Keeps.of_ext k)
theorem clone55 {b C : Nat} {m : Int → Option Value} {w : World} (h : MapAt Try.prog 3 b C m w) : Calls Try.prog 55 #[.map (some b)] w fun e w' => ∃ z, e = .returned (.map (some z)) ∧ w.heap.size ≤ z ∧ MapAt Try.prog 3 z C m w' ∧ Ext w w' := by
  obtain ⟨D, h1, h2⟩ := h
  have hcon := AnyW.maps_Clone_owns cloneA 3 RV b C D w h1
  change Calls Try.prog 55 _ _ _ at hcon
  exact hcon.mono fun e w' ⟨he, k1, _, hB⟩ => ⟨_, he, Nat.le_refl _, ⟨D, k1, h2⟩, hB⟩
theorem clone56 {b C : Nat} {m : Int → Option Value} {w : World} (h : MapAt Try.prog 3 b C m w) : Calls Try.prog 56 #[.map (some b)] w fun e w' => ∃ z, e = .returned (.map (some z)) ∧ w.heap.size ≤ z ∧ MapAt Try.prog 3 z C m w' ∧ Ext w w' := by
  obtain ⟨D, h1, h2⟩ := h
  have hcon := AnyW.maps_Clone_owns cloneB 3 RV b C D w h1
  change Calls Try.prog 56 _ _ _ at hcon
  exact hcon.mono fun e w' ⟨he, k1, _, hB⟩ => ⟨_, he, Nat.le_refl _, ⟨D, k1, h2⟩, hB⟩
set_option maxRecDepth 20000 in
set_option maxHeartbeats 4000000 in
theorem fork_any {F : Nat → Prop} {p C : Nat} {M : MLoc} {w : World} (s : MSt) (hM : MdM F p s C M w) : Calls Try.prog 18 #[.pointer (some ⟨p, 0, none⟩)] w fun e w' => ∃ (G : Nat → Prop) (q : Nat) (N : MLoc), e = .returned (.pointer (some ⟨q, 0, none⟩)) ∧ MdM G q s C N w' ∧ (∀ i, G i → w.heap.size ≤ i) ∧ Ext w w' := by
  have hS := hM.st
  have hM0 := hideit hM
  replace hS := hideit hS
  replace hM := hideit hM
  have hE := hideit (Ext.refl w)
  go_enter Try.func18, Try.ntmps18
  go_upto_region 1 with (fail)
  refine wp_region_lit ?_
  refine xm [some (.pointer (some ⟨p, 0, none⟩)), some (.bool false)] (by kernel_rfl) (by simp [xr, go_sem]) ?_
  simp only [xw, p0, p1, p2, p3]
  go_upto_region 3 with (fail)
  refine wp_region_lit ?_
  refine xm [some (.pointer (some ⟨p, 0, none⟩)), some (.pointer (some ⟨p, 0, none⟩))] (by kernel_rfl) (by simp [xr, go_sem]) ?_
  simp only [xw, p0, p1, p2, p3]
  refine wpList_run rfl (.agg (row 64 (mdV s.h M.sb M.pb s.ep s.r s.op s.sl)).toArray) (xload 68 (.tmp 7) rfl p 0 64 _ rfl hS.out.range Try.underlying68 rfl infoM) ?_
  simp only [Act.put, List.setIfInBounds_toArray, List.set_cons_zero, List.set_cons_succ]
  refine wpList_to rfl (.pointer (some ⟨w.heap.size, 0, none⟩)) (w.alloc (.cells (row 64 zMV).toArray 68)) (xalloc 68 _ rfl (zero68 _)) ?_
  simp only [Act.put, List.setIfInBounds_toArray, List.set_cons_zero, List.set_cons_succ]
  have N0 := hideit ((RowAt.new w 64 zMV 68).cells (g' := mdV s.h M.sb M.pb s.ep s.r s.op s.sl))
  have XE : Ext w ((w.alloc (.cells (row 64 zMV).toArray 68)).setCells w.heap.size 0 (row 64 (mdV s.h M.sb M.pb s.ep s.r s.op s.sl))) := below_setCells w.heap.size (Nat.le_refl _) _ 0 _ ((Below.refl _ _).alloc (Nat.le_refl _) _)
  have KB := hideit (show NBk w.heap.size ((w.alloc (.cells (row 64 zMV).toArray 68)).setCells w.heap.size 0 (row 64 (mdV s.h M.sb M.pb s.ep s.r s.op s.sl))) from NBk.keep (F := fun i => i = w.heap.size) ⟨(RowAt.new w 64 zMV 68).2.2, notB_new w (row 64 zMV).toArray 68 (by decide)⟩ (Keeps.cells (F := fun i => i = w.heap.size) w.heap.size (.inl rfl) (row 64 (mdV s.h M.sb M.pb s.ep s.r s.op s.sl)) 0 _ (Keeps.refl _ (w.alloc (.cells (row 64 zMV).toArray 68)))))
  have Dq := hideit (Nat.ne_of_lt hS.out.2.2)
  refine xst rfl ((w.alloc (.cells (row 64 zMV).toArray 68)).setCells w.heap.size 0 (row 64 (mdV s.h M.sb M.pb s.ep s.r s.op s.sl))) (xstore 68 (.tmp 3) (.tmp 8) rfl w.heap.size 64 _ (mdV s.h M.sb M.pb s.ep s.r s.op s.sl) rfl rfl (RowAt.new w 64 zMV 68) infoM (fun j _ => md_one _ _ _ _ _ _ _ j)) ?_
  simp only [Act.put]
  generalize (w.alloc (.cells (row 64 zMV).toArray 68)).setCells w.heap.size 0 (row 64 (mdV s.h M.sb M.pb s.ep s.r s.op s.sl)) = x1 at N0 XE KB ⊢
  obtain ⟨q, eq⟩ : ∃ b, b = w.heap.size := ⟨_, rfl⟩
  have ABq : Hid (w.heap.size ≤ q) := by rw [eq]; exact Nat.le_refl _
  rw [← eq] at N0 Dq KB ⊢
  clear eq
  have Hq := N0
  clear N0
  replace hS := hideit (hS.out.carry XE)
  replace hM := hideit (hM.out.ext XE)
  replace hE := hideit (Ext.trans hE.out XE)
  clear XE
  go_upto_region 4 with (fail)
  replace hS := hideit hS.out.drew
  replace Hq := hideit Hq.out.drew
  replace hM := hideit (hM.out.ext (Ext.draw (Ext.refl x1)))
  replace KB := hideit (KB.out.ext (Ext.draw (Ext.refl x1)))
  replace hE := hideit (Ext.draw hE.out)
  refine wp_region_ladz (fun X => Ext x1.drew X) [11, 13] [(false, 0), (false, 1), (false, 2), (false, 3), (false, 5), (false, 6), (false, 7), (false, 8), (true, 4), (true, 9), (false, 10), (true, 11), (false, 12), (true, 13)] (by kernel_rfl) (by kernel_rfl) (by decide +kernel) (by decide +kernel) (by decide +kernel) (by decide +kernel) (Ext.refl _) ?_
  refine wpZ_f _ (.pointer (some ⟨p, 0, none⟩)) rfl rfl (fun X _ => by simp [go_sem]) ?_
  simp only [List.getElem_toArray, List.getElem_cons_zero, Act.put, List.setIfInBounds_toArray, List.set_cons_zero, List.set_cons_succ]
  refine wpZ_f _ (.pointer (some ⟨p, 0, none⟩)) rfl rfl (fun X _ => by simp [go_sem]) ?_
  simp only [List.getElem_toArray, List.getElem_cons_zero, List.getElem_cons_succ, Act.put, List.setIfInBounds_toArray, List.set_cons_zero, List.set_cons_succ]
  refine wpZ_f _ (.pointer (some ⟨p, 24, none⟩)) rfl rfl (fun X _ => by simp [go_sem]) ?_
  simp only [List.getElem_toArray, List.getElem_cons_zero, List.getElem_cons_succ, Act.put, List.setIfInBounds_toArray, List.set_cons_zero, List.set_cons_succ]
  refine wpZ_f _ (.map (some M.sb)) rfl rfl (fun X hX => by have m1 : X.cell? ⟨p, 24, none⟩ = some (.map (some M.sb)) := (hS.out.carry hX).1 24 (by decide); simp [go_sem, m1]) ?_
  simp only [List.getElem_toArray, List.getElem_cons_zero, List.getElem_cons_succ, Act.put, List.setIfInBounds_toArray, List.set_cons_zero, List.set_cons_succ]
  refine wpZ_f _ (.pointer (some ⟨p, 0, none⟩)) rfl rfl (fun X _ => by simp [go_sem]) ?_
  simp only [List.getElem_toArray, List.getElem_cons_zero, List.getElem_cons_succ, Act.put, List.setIfInBounds_toArray, List.set_cons_zero, List.set_cons_succ]
  refine wpZ_f _ (.pointer (some ⟨p, 0, none⟩)) rfl rfl (fun X _ => by simp [go_sem]) ?_
  simp only [List.getElem_toArray, List.getElem_cons_zero, List.getElem_cons_succ, Act.put, List.setIfInBounds_toArray, List.set_cons_zero, List.set_cons_succ]
  refine wpZ_f _ (.pointer (some ⟨p, 25, none⟩)) rfl rfl (fun X _ => by simp [go_sem]) ?_
  simp only [List.getElem_toArray, List.getElem_cons_zero, List.getElem_cons_succ, Act.put, List.setIfInBounds_toArray, List.set_cons_zero, List.set_cons_succ]
  refine wpZ_f _ (.map (some M.pb)) rfl rfl (fun X hX => by have m2 : X.cell? ⟨p, 25, none⟩ = some (.map (some M.pb)) := (hS.out.carry hX).1 25 (by decide); simp [go_sem, m2]) ?_
  simp only [List.getElem_toArray, List.getElem_cons_zero, List.getElem_cons_succ, Act.put, List.setIfInBounds_toArray, List.set_cons_zero, List.set_cons_succ]
  have hql := hideit Hq.out.2.2
  have hBy := hideit (Below.size hE.out)
  refine wpZ_call _ rfl rfl (by simp [go_sem]) ((clone55 hM.out.mpS).mono ?_)
  rintro e yzs ⟨zs, rfl, hz1, hz2, hX5⟩
  refine ⟨_, rfl, fun X => Ext yzs X, .inr (fun X hX => Ext.trans hX5 hX), Ext.refl _, ?_⟩
  simp only [List.getElem_toArray, List.getElem_cons_zero, List.getElem_cons_succ, Act.put, List.setIfInBounds_toArray, List.set_cons_zero, List.set_cons_succ]
  replace hS := hideit (hS.out.carry hX5)
  replace Hq := hideit (Hq.out.carry hX5)
  replace hM := hideit (hM.out.ext hX5)
  replace KB := hideit (KB.out.ext hX5)
  replace hE := hideit (Ext.trans hE.out (hX5))
  have nqzs : Hid (q ≠ zs) := by have := hql.out; show q ≠ zs; omega
  replace hz1 : Hid (w.heap.size ≤ zs ∧ True) := ⟨by have := hBy.out; omega, trivial⟩
  have ABzs := hz1
  clear hz1 hql hBy hX5
  have hzs := hideit hz2
  clear hz2
  have hql := hideit Hq.out.2.2
  have hBy := hideit (Below.size hE.out)
  have hzl := hideit hzs.out.lt
  refine wpZ_call _ rfl rfl (by simp [go_sem]) ((clone56 hM.out.mpP).mono ?_)
  rintro e yzp ⟨zp, rfl, hz1, hz2, hX5⟩
  refine ⟨_, rfl, fun X => Ext yzp X, .inr (fun X hX => Ext.trans hX5 hX), Ext.refl _, ?_⟩
  simp only [List.getElem_toArray, List.getElem_cons_zero, List.getElem_cons_succ, Act.put, List.setIfInBounds_toArray, List.set_cons_zero, List.set_cons_succ]
  replace hS := hideit (hS.out.carry hX5)
  replace Hq := hideit (Hq.out.carry hX5)
  replace hM := hideit (hM.out.ext hX5)
  replace KB := hideit (KB.out.ext hX5)
  replace hzs := hideit (hzs.out.ext hX5)
  replace hE := hideit (Ext.trans hE.out (hX5))
  have nqzp : Hid (q ≠ zp) := by have := hql.out; show q ≠ zp; omega
  replace hz1 : Hid (w.heap.size ≤ zp ∧ zs ≠ zp) := ⟨by have := hBy.out; omega, by have := hzl.out; show zs ≠ zp; omega⟩
  have ABzp := hz1
  clear hz1 hql hBy hX5 hzl
  have hzp := hideit hz2
  clear hz2
  refine wpZ_f _ (.pointer (some ⟨q, 24, none⟩)) rfl rfl (fun X _ => by simp [go_sem]) ?_
  simp only [List.getElem_toArray, List.getElem_cons_zero, List.getElem_cons_succ, Act.put, List.setIfInBounds_toArray, List.set_cons_zero, List.set_cons_succ]
  have M0 : yzp.cell? ⟨q, 24, none⟩ = some (.map (some M.sb)) := Hq.out.1 24 (by decide)
  have M1 : yzp.frozen? ⟨q, 24, none⟩ = false := Hq.out.2.1 24 (by decide)
  have N0 := hideit (Hq.out.set 24 (.map (some zs)))
  have NE := hideit (hE.out.setCell (p := ⟨q, 24, none⟩) ABq.out (.map (some zs)))
  have NK := hideit ((Keeps.refl (fun i => i = q) yzp).setCell (p := ⟨q, 24, none⟩) (.inl rfl) (.map (some zs)))
  refine wpZ_st _ (yzp.setCell ⟨q, 24, none⟩ (.map (some zs))) rfl rfl (by simp [go_sem, M0, M1]) (fun _ => True) (.inl (by simp)) trivial ?_
  simp only [List.getElem_toArray, List.getElem_cons_zero, List.getElem_cons_succ, Act.put]
  generalize yzp.setCell ⟨q, 24, none⟩ (.map (some zs)) = u1 at N0 NE NK ⊢
  clear M0 M1
  replace Hq := N0
  replace hE := NE
  replace hzs := hideit (hzs.out.keep NK.out (Ne.symm nqzs.out))
  replace hzp := hideit (hzp.out.keep NK.out (Ne.symm nqzp.out))
  replace KB := hideit (KB.out.keep NK.out)
  clear N0 NE NK
  refine wpZ_f _ (.pointer (some ⟨q, 25, none⟩)) rfl rfl (fun X _ => by simp [go_sem]) ?_
  simp only [List.getElem_toArray, List.getElem_cons_zero, List.getElem_cons_succ, Act.put, List.setIfInBounds_toArray, List.set_cons_zero, List.set_cons_succ]
  have M0 : u1.cell? ⟨q, 25, none⟩ = some (.map (some M.pb)) := Hq.out.1 25 (by decide)
  have M1 : u1.frozen? ⟨q, 25, none⟩ = false := Hq.out.2.1 25 (by decide)
  have N0 := hideit (Hq.out.set 25 (.map (some zp)))
  have NE := hideit (hE.out.setCell (p := ⟨q, 25, none⟩) ABq.out (.map (some zp)))
  have NK := hideit ((Keeps.refl (fun i => i = q) u1).setCell (p := ⟨q, 25, none⟩) (.inl rfl) (.map (some zp)))
  refine wpZ_st _ (u1.setCell ⟨q, 25, none⟩ (.map (some zp))) rfl rfl (by simp [go_sem, M0, M1]) (fun _ => True) (.inl (by simp)) trivial ?_
  simp only [List.getElem_toArray, List.getElem_cons_zero, List.getElem_cons_succ, Act.put]
  generalize u1.setCell ⟨q, 25, none⟩ (.map (some zp)) = u2 at N0 NE NK ⊢
  clear M0 M1
  replace Hq := N0
  replace hE := NE
  replace hzs := hideit (hzs.out.keep NK.out (Ne.symm nqzs.out))
  replace hzp := hideit (hzp.out.keep NK.out (Ne.symm nqzp.out))
  replace KB := hideit (KB.out.keep NK.out)
  clear N0 NE NK
  refine wpZ_nil ?_
  go_upto_region 5 with (fail)
  refine wp_region_lit ?_
  refine xm [some (.pointer (some ⟨q, 0, none⟩))] (by kernel_rfl) (by simp [xr, go_sem]) ?_
  simp only [xw, p0, p1, p2, p3]
  go_wp2
  go_ret
  refine ⟨fun i => i = q ∨ i = zs ∨ i = zp, q, ⟨zs, zp, M.m⟩, rfl, ?_, fun i hi => ?_, hE.out⟩
  · have hM9 := hM0.out.ext hE.out
    exact {
      st := Hq.out.congr fun j _ => by
        show (if j = 25 then Value.map (some zp) else if j = 24 then Value.map (some zs) else mdV s.h M.sb M.pb s.ep s.r s.op s.sl j) = mdV s.h zs zp s.ep s.r s.op s.sl j
        unfold mdV
        by_cases e5 : j = 25
        · subst e5; rfl
        · rw [if_neg e5]
          by_cases e4 : j = 24
          · subst e4; rfl
          · rw [if_neg e4]
            by_cases h1 : j < 24
            · rw [if_pos h1, if_pos h1]
            · rw [if_neg h1, if_neg h1, if_neg e4, if_neg e4, if_neg e5, if_neg e5]
      okh := hM9.okh
      eps := hM9.eps
      mpS := hzs.out
      mpP := hzp.out
      hasP := hM9.hasP
      cont := hM9.cont
      kS := hM9.kS
      kP := hM9.kP
      fp := .inl rfl
      fs := .inr (.inl rfl)
      fm := .inr (.inr rfl)
      nb := fun i hi => by
        rcases hi with rfl | rfl | rfl
        · exact KB.out.nb
        · exact hzs.out.notB
        · exact hzp.out.notB
      lt := fun i hi => by
        rcases hi with rfl | rfl | rfl
        · exact KB.out.lt
        · exact hzs.out.lt
        · exact hzp.out.lt
      ps := nqzs.out
      pm := nqzp.out
      sm := ABzp.out.2 }
  · rcases hi with rfl | rfl | rfl
    · exact ABq.out
    · exact ABzs.out.1
    · exact ABzp.out.1
end Go.Proofs.Ytcipkfalnjgghaa
namespace Go.Proofs.Ytcipkfalnjgghaa
open Go.RowKit Go.BigFrame Go.Maps
set_option linter.unusedVariables false
/-- so many whole numbers -/
def LI (v : Value) (n : Nat) (b : Nat → Int) (w : World) : Prop := (v = .slice none 0 0 ∧ n = 0) ∨ ∃ a cap, v = .slice (some a) n cap ∧ LieAt a n (fun j => .int .i64 (b j)) w
theorem LI.ext {v : Value} {n : Nat} {b : Nat → Int} {w X : World} (h : LI v n b w) (k : Ext w X) : LI v n b X := by
  rcases h with h | ⟨a, cap, h1, h2⟩
  · exact .inl h
  · exact .inr ⟨a, cap, h1, h2.carry k⟩
theorem LI.form {v : Value} {n : Nat} {b : Nat → Int} {w : World} (h : LI v n b w) : ∃ o c, v = .slice o n c := by
  rcases h with ⟨h, e⟩ | ⟨a, cap, h1, _⟩
  · subst e; exact ⟨none, 0, h⟩
  · exact ⟨some a, cap, h1⟩
theorem OwnB.li {base : Nat} {v : Value} {n : Nat} {b : Nat → Int} {w : World} (h : OwnB base 3 v n (fun j => .int .i64 (b j)) w) : LI v n b w := by
  rcases h.2 with ⟨h1, h2⟩ | ⟨g, cap, cur, h1, _⟩
  · exact .inl ⟨h1, h2⟩
  · by_cases e : 0 < n
    · obtain ⟨b', cap', e1, _, _, _, hR⟩ := h.lies e
      refine .inr ⟨⟨b', 0, none⟩, cap', e1, ⟨fun j hj => ?_, hR.2.2⟩⟩
      have := hR.1 j hj
      rw [addr0]
      exact this
    · have e0 : n = 0 := by omega
      subst e0
      exact .inr ⟨⟨g, 0, none⟩, cap, h1, ⟨fun j hj => absurd hj (by omega), (h.lt g (by rw [h1]; rfl)).2⟩⟩
theorem xloadI {P : Program} {o : Oper} {a : Act} {w : World} (t : TypeId) (x : Operand) (ho : o.op = .load t x) (ad : Addr) (b : Int) (hx : a.eval x = .pointer (some ad)) (h : w.cell? ad = some (.int .i64 b)) (hg : ∀ w, (isAgg t).run P w = .ok false w) : (execOp a.eval o).run P w = .ok (.value (.int .i64 b)) w := by
  generalize a.eval = ρ at hx ⊢
  unfold execOp
  simp [ho, hx, Instr.loadAt, Instr.sureAddr, loadVar, hg, h, go_sem]
set_option maxRecDepth 20000 in
set_option maxHeartbeats 4000000 in
theorem same_ints (o1 o2 : Option Addr) (n k1 k2 : Nat) (b : Nat → Int) (w : World) (hL1 : LI (.slice o1 n k1) n b w) (hL2 : LI (.slice o2 n k2) n b w) (hn : n ≤ 9007199254740992) : Calls Try.prog 22 #[.slice o1 n k1, .slice o2 n k2] w fun e w' => e = .returned (.bool true) ∧ Ext w w' := by
  have hE := hideit (Ext.refl w)
  replace hL1 := hideit hL1
  replace hL2 := hideit hL2
  replace hn := hideit hn
  go_enter Try.func22, Try.ntmps22
  go_upto_region 1 with (fail)
  refine wp_region_lit ?_
  refine xm [some (.slice o1 n k1), some (.int .i64 (n : Int)), some (.slice o2 n k2), some (.int .i64 (n : Int)), some (.bool false)] (by kernel_rfl) (by simp [xr, go_sem]) ?_
  simp only [xw, p0, p1, p2, p3]
  go_upto_region 3 with (fail)
  refine wp_region_lit ?_
  refine xm [some (.int .i64 0)] (by kernel_rfl) (by simp [xr, go_sem]) ?_
  simp only [xw, p0, p1, p2, p3]
  go_wp2
  go_loopw [5] (fun t X => ∃ i : Nat, i ≤ n ∧ t = .int .i64 (i : Int) ∧ LI (.slice o1 n k1) n b X ∧ LI (.slice o2 n k2) n b X ∧ Ext w X) (fun t _ => n - (intOf t).toNat)
  case atStart => exact ⟨0, Nat.zero_le _, rfl, hL1.out, hL2.out, hE.out⟩
  case round =>
    obtain ⟨i, hin, rfl, rL1, rL2, rE⟩ := hrel
    clear hE hL1 hL2
    replace rL1 := hideit rL1
    replace rL2 := hideit rL2
    replace rE := hideit rE
    by_cases hi2 : i < n
    · have hi := hideit hi2
      have ek : IntKind.i64.wrap ((i : Int) + 1) = ((i + 1 : Nat) : Int) := by have := hn.out; rw [IntKind.wrap_i64]; omega
      obtain ⟨a1, rfl⟩ : ∃ a, o1 = some a := by
        rcases rL1.out with ⟨_, h0⟩ | ⟨a, c, h1, _⟩
        · omega
        · injection h1 with h1; exact ⟨a, h1⟩
      obtain ⟨a2, rfl⟩ : ∃ a, o2 = some a := by
        rcases rL2.out with ⟨_, h0⟩ | ⟨a, c, h1, _⟩
        · omega
        · injection h1 with h1; exact ⟨a, h1⟩
      have hcell1 : Hid (∀ X, Ext wr.drew X → X.cell? (a1.add i) = some (.int .i64 (b i))) := fun X hX => by
        rcases rL1.out with ⟨h0, _⟩ | ⟨a, c, h1, h2⟩
        · cases h0
        · injection h1 with h1; injection h1 with h1; subst h1; exact (h2.carry (Ext.trans (Ext.draw (Ext.refl wr)) hX)).1 i hi.out
      have hcell2 : Hid (∀ X, Ext wr.drew X → X.cell? (a2.add i) = some (.int .i64 (b i))) := fun X hX => by
        rcases rL2.out with ⟨h0, _⟩ | ⟨a, c, h1, h2⟩
        · cases h0
        · injection h1 with h1; injection h1 with h1; subst h1; exact (h2.carry (Ext.trans (Ext.draw (Ext.refl wr)) hX)).1 i hi.out
      clear hi2 hin
      go_upto_region 4 with (fail)
      refine wp_region_lit ?_
      refine xm [some (.int .i64 (i : Int)), some (.slice (some a1) n k1), some (.int .i64 (n : Int)), some (.bool true)] (by kernel_rfl) (by simp [xr, go_sem, hi.out]) ?_
      simp only [xw, p0, p1, p2, p3]
      go_upto_region 6 with (fail)
      replace rL1 := hideit (rL1.out.ext (Ext.draw (Ext.refl wr)))
      replace rL2 := hideit (rL2.out.ext (Ext.draw (Ext.refl wr)))
      replace rE := hideit (Ext.draw rE.out)
      refine wp_region_lad (fun X => Ext wr.drew X) [(false, 0), (false, 1), (false, 2), (false, 3), (false, 4), (false, 5), (false, 6), (false, 7), (false, 8)] (by kernel_rfl) (by kernel_rfl) (by decide +kernel) (by decide +kernel) (by decide +kernel) (by decide +kernel) (Ext.refl _) ?_
      refine wpX_f _ (.slice (some a1) n k1) rfl rfl (fun X _ => by simp [go_sem]) ?_
      simp only [List.getElem_toArray, List.getElem_cons_zero, Act.put, List.setIfInBounds_toArray, List.set_cons_zero, List.set_cons_succ]
      refine wpX_f _ (.int .i64 (i : Int)) rfl rfl (fun X _ => by simp [go_sem]) ?_
      simp only [List.getElem_toArray, List.getElem_cons_zero, List.getElem_cons_succ, Act.put, List.setIfInBounds_toArray, List.set_cons_zero, List.set_cons_succ]
      refine wpX_f _ (.pointer (some (a1.add i))) rfl rfl (fun X _ => by simp [go_sem, hi.out]) ?_
      simp only [List.getElem_toArray, List.getElem_cons_zero, List.getElem_cons_succ, Act.put, List.setIfInBounds_toArray, List.set_cons_zero, List.set_cons_succ]
      refine wpX_f _ (.int .i64 (b i)) rfl rfl (fun X hX => xloadI 3 (.tmp 19) rfl (a1.add i) (b i) rfl (hcell1.out X hX) Try.isAgg3) ?_
      simp only [List.getElem_toArray, List.getElem_cons_zero, List.getElem_cons_succ, Act.put, List.setIfInBounds_toArray, List.set_cons_zero, List.set_cons_succ]
      refine wpX_f _ (.slice (some a2) n k2) rfl rfl (fun X _ => by simp [go_sem]) ?_
      simp only [List.getElem_toArray, List.getElem_cons_zero, List.getElem_cons_succ, Act.put, List.setIfInBounds_toArray, List.set_cons_zero, List.set_cons_succ]
      refine wpX_f _ (.int .i64 (i : Int)) rfl rfl (fun X _ => by simp [go_sem]) ?_
      simp only [List.getElem_toArray, List.getElem_cons_zero, List.getElem_cons_succ, Act.put, List.setIfInBounds_toArray, List.set_cons_zero, List.set_cons_succ]
      refine wpX_f _ (.pointer (some (a2.add i))) rfl rfl (fun X _ => by simp [go_sem, hi.out]) ?_
      simp only [List.getElem_toArray, List.getElem_cons_zero, List.getElem_cons_succ, Act.put, List.setIfInBounds_toArray, List.set_cons_zero, List.set_cons_succ]
      refine wpX_f _ (.int .i64 (b i)) rfl rfl (fun X hX => xloadI 3 (.tmp 23) rfl (a2.add i) (b i) rfl (hcell2.out X hX) Try.isAgg3) ?_
      simp only [List.getElem_toArray, List.getElem_cons_zero, List.getElem_cons_succ, Act.put, List.setIfInBounds_toArray, List.set_cons_zero, List.set_cons_succ]
      refine wpX_f _ (.bool false) rfl rfl (fun X _ => by simp [go_sem]) ?_
      simp only [List.getElem_toArray, List.getElem_cons_zero, List.getElem_cons_succ, Act.put, List.setIfInBounds_toArray, List.set_cons_zero, List.set_cons_succ]
      refine wpX_nil ?_
      go_upto_region 5 with (fail)
      refine wp_region_lit ?_
      refine xm [some (.int .i64 (i : Int)), some (.int .i64 ((i + 1 : Nat) : Int)), some (.int .i64 ((i + 1 : Nat) : Int))] (by kernel_rfl) (by simp [xr, go_sem, ek]) ?_
      simp only [xw, p0, p1, p2, p3]
      go_wp2
      go_round
      case rel => exact ⟨i + 1, by have := hi.out; omega, rfl, rL1.out, rL2.out, rE.out⟩
      case measure => have := hi.out; simp [intOf]; omega
    · have hi := hideit hi2
      clear hi2 hin
      go_upto_region 4 with (fail)
      refine wp_region_lit ?_
      refine xm [some (.int .i64 (i : Int)), some (.slice o1 n k1), some (.int .i64 (n : Int)), some (.bool false)] (by kernel_rfl) (by simp [xr, go_sem, hi.out]) ?_
      simp only [xw, p0, p1, p2, p3]
      go_upto_region 8 with (fail)
      refine wp_region_lit ?_
      refine xm [some (.bool true)] (by kernel_rfl) (by simp [xr, go_sem]) ?_
      simp only [xw, p0, p1, p2, p3]
      go_wp2
      go_ret
      exact ⟨rfl, rE.out⟩
end Go.Proofs.Ytcipkfalnjgghaa
namespace Go.Proofs.Ytcipkfalnjgghaa
open Go.RowKit Go.BigFrame Go.Maps
set_option linter.unusedVariables false
theorem PV.bv {u : Value} {l : Nat} {b : Nat → BitVec 8} {w : World} (h : PV u l b w) (h0 : 0 < l) : BV u l b w := by
  rcases h with h | ⟨a, cap, h1, h2, h3⟩
  · exact .inl h
  · exact .inr ⟨a, cap, h1, h2, h3, by have := World.block_lt_of_cell? w _ (h3 0 h0); rwa [show (a.add 0).block = a.block by unfold Addr.add; split <;> rfl] at this⟩
theorem BV.pv {u : Value} {l : Nat} {b : Nat → BitVec 8} {w : World} (h : BV u l b w) : PV u l b w := by
  rcases h with h | ⟨a, cap, h1, h2, h3⟩
  · exact .inl h
  · exact .inr ⟨a, cap, h1, h2, h3.1⟩
theorem exec_app {P : Program} {o : Oper} {a : Act} {w w' : World} {t : TypeId} {v u v' : Value} (sl x : Operand) (ho : o.op = .call { callee := .builtin .append, args := #[sl, x], argTypes := #[t, t] }) (hs : a.eval sl = v) (hx : a.eval x = u)
    (hr : (Builtin.append_ #[t, t] o.type #[v, u]).run P w = .ok v' w') : (execOp a.eval o).run P w = .ok (.value v') w' := by
  simp [execOp, ho, resolve, invoke, builtin, hs, hx, hr, Result.andThen]
set_option maxRecDepth 20000 in
set_option maxHeartbeats 4000000 in
theorem clone_pv (v : Value) (l : Nat) (b : Nat → BitVec 8) (w : World) (h : PV v l b w) (hl : l ≤ 140737488355328) :
    Calls Try.prog 45 #[v] w fun e w' => ∃ v', e = .returned v' ∧ OwnB w.heap.size 5 v' l (yv b) w' ∧ Ext w w' := by
  by_cases h0 : 0 < l
  · exact clone_any v l b w (h.bv h0) hl
  · obtain rfl : l = 0 := by omega
    rcases h with ⟨rfl, _⟩ | ⟨a, cap, rfl, h2, h3⟩
    · exact clone_any _ 0 b w (.inl ⟨rfl, rfl⟩) hl
    · have hE : Hid (Ext w (w.alloc (.cells #[] 5))) := (Below.refl _ _).alloc (Nat.le_refl _) _
      have hO := hideit (own_empty w w.heap.size 5 (yv b) (Nat.le_refl _))
      have hq := fun X : World => Go.Lib.run_eql_slice_some_nil (P := Try.prog) X a 0 cap Try.underlying22
      clear h3
      go_enter Try.func45, Try.ntmps45
      go_upto_region 3 with (fail)
      refine wp_region_lit ?_
      refine wpList_to rfl (.slice (some ⟨w.heap.size, 0, none⟩) 0 0) (w.alloc (.cells #[] 5)) (by simp [go_sem]) ?_
      simp only [Act.put, List.setIfInBounds_toArray, List.set_cons_zero, List.set_cons_succ]
      refine wpList_run rfl (.slice (some a) 0 cap) (by simp [go_sem]) ?_
      simp only [Act.put, List.setIfInBounds_toArray, List.set_cons_zero, List.set_cons_succ]
      refine wpList_run rfl (.slice (some ⟨w.heap.size, 0, none⟩) 0 0) (exec_app (.tmp 5) (.tmp 6) rfl rfl rfl (by simp [Builtin.append_, go_sem]; done)) ?_
      simp only [Act.put, List.setIfInBounds_toArray, List.set_cons_zero, List.set_cons_succ]
      go_wp2
      go_ret
      exact ⟨_, rfl, hO.out, hE.out⟩
set_option maxRecDepth 20000 in
set_option maxHeartbeats 4000000 in
theorem a5_anyP (h : Hd) (sb pb : Nat) (ep : Int) (r : Rt) (op : Bool) (sl : Int) (p bm bn bb C : Nat) (m : Int → Option Value) (n : Int) (o : Option Addr) (l k : Nat) (f : Nat → BitVec 8) (w : World) (hS : RowAt p 64 (mdV h sb pb ep r op sl) w) (hm : RowAt bm 1 (fun _ => .pointer (some ⟨p, 0, none⟩)) w) (hn : RowAt bn 1 (fun _ => .int .i64 n) w) (hb : RowAt bb 1 (fun _ => .slice o l k) w) (hV : PV (.slice o l k) l f w) (hP : MapAt Try.prog 3 pb C m w) (hok : okI n) (hC : C < maxLen) (hl : l ≤ 512) :
    Calls Try.prog 44 #[.pointer (some ⟨bb, 0, none⟩), .pointer (some ⟨bm, 0, none⟩), .pointer (some ⟨bn, 0, none⟩)] w fun e w' => e = .returned (.int .i64 0) ∧ ∃ vo vk, MapAt Try.prog 3 pb (C + 1) (mset m n (some (.slice vo l vk))) w' ∧ BB (.slice vo l vk) l f w' ∧ Keeps (fun i => i = pb) w w' := by
  replace hS := hideit hS
  replace hm := hideit hm
  replace hn := hideit hn
  replace hb := hideit hb
  replace hV := hideit hV
  replace hP := hideit hP
  replace hok := hideit hok
  replace hC := hideit hC
  replace hl := hideit hl
  have hE := hideit (Ext.refl w)
  go_enter Try.func44, Try.ntmps44
  go_upto_region 1 with (fail)
  replace hS := hideit hS.out.drew
  replace hm := hideit hm.out.drew
  replace hn := hideit hn.out.drew
  replace hb := hideit hb.out.drew
  replace hV := hideit (hV.out.ext (Ext.draw (Ext.refl w)))
  replace hP := hideit (hP.out.ext (Ext.draw (Ext.refl w)))
  replace hE := hideit (Ext.draw hE.out)
  refine wp_region_ladz (fun X => Ext w.drew X) [7] [(false, 0), (false, 1), (false, 2), (false, 3), (false, 4), (false, 5), (true, 6), (true, 7)] (by kernel_rfl) (by kernel_rfl) (by decide +kernel) (by decide +kernel) (by decide +kernel) (by decide +kernel) (Ext.refl _) ?_
  refine wpZ_f _ (.pointer (some ⟨p, 0, none⟩)) rfl rfl (fun X hX => by have m1 : X.cell? ⟨bm, 0, none⟩ = some (.pointer (some ⟨p, 0, none⟩)) := (hm.out.carry hX).1 0 (by decide); simp [go_sem, m1]) ?_
  simp only [List.getElem_toArray, List.getElem_cons_zero, Act.put, List.setIfInBounds_toArray, List.set_cons_zero, List.set_cons_succ]
  refine wpZ_f _ (.pointer (some ⟨p, 0, none⟩)) rfl rfl (fun X _ => by simp [go_sem]) ?_
  simp only [List.getElem_toArray, List.getElem_cons_zero, List.getElem_cons_succ, Act.put, List.setIfInBounds_toArray, List.set_cons_zero, List.set_cons_succ]
  refine wpZ_f _ (.pointer (some ⟨p, 25, none⟩)) rfl rfl (fun X _ => by simp [go_sem]) ?_
  simp only [List.getElem_toArray, List.getElem_cons_zero, List.getElem_cons_succ, Act.put, List.setIfInBounds_toArray, List.set_cons_zero, List.set_cons_succ]
  refine wpZ_f _ (.map (some pb)) rfl rfl (fun X hX => by have m2 : X.cell? ⟨p, 25, none⟩ = some (.map (some pb)) := (hS.out.carry hX).1 25 (by decide); simp [go_sem, m2]) ?_
  simp only [List.getElem_toArray, List.getElem_cons_zero, List.getElem_cons_succ, Act.put, List.setIfInBounds_toArray, List.set_cons_zero, List.set_cons_succ]
  refine wpZ_f _ (.int .i64 (n)) rfl rfl (fun X hX => by have m3 : X.cell? ⟨bn, 0, none⟩ = some (.int .i64 (n)) := (hn.out.carry hX).1 0 (by decide); simp [go_sem, m3]) ?_
  simp only [List.getElem_toArray, List.getElem_cons_zero, List.getElem_cons_succ, Act.put, List.setIfInBounds_toArray, List.set_cons_zero, List.set_cons_succ]
  refine wpZ_f _ (.slice o l k) rfl rfl (fun X hX => by have m4 : X.cell? ⟨bb, 0, none⟩ = some (.slice o l k) := (hb.out.carry hX).1 0 (by decide); simp [go_sem, m4]) ?_
  simp only [List.getElem_toArray, List.getElem_cons_zero, List.getElem_cons_succ, Act.put, List.setIfInBounds_toArray, List.set_cons_zero, List.set_cons_succ]
  refine wpZ_call _ rfl rfl (by simp [go_sem]) ((clone_pv (.slice o l k) l f w.drew hV.out (by have := hl.out; omega)).mono ?_)
  rintro e y5 ⟨v5, rfl, hO5, hX5⟩
  refine ⟨_, rfl, fun X => Ext y5 X, .inr (fun X hX => Ext.trans hX5 hX), Ext.refl _, ?_⟩
  simp only [List.getElem_toArray, List.getElem_cons_zero, List.getElem_cons_succ, Act.put, List.setIfInBounds_toArray, List.set_cons_zero, List.set_cons_succ]
  replace hS := hideit (hS.out.carry hX5)
  replace hm := hideit (hm.out.carry hX5)
  replace hn := hideit (hn.out.carry hX5)
  replace hb := hideit (hb.out.carry hX5)
  replace hV := hideit (hV.out.ext hX5)
  replace hP := hideit (hP.out.ext hX5)
  replace hE := hideit (Ext.trans hE.out (hX5))
  have hBB := hideit hO5.bb
  clear hX5 hO5
  obtain ⟨vo, vk, rfl⟩ := hBB.out.1.form
  obtain ⟨vl, hvl⟩ : ∃ q, q = l := ⟨_, rfl⟩
  rw [← hvl] at hBB ⊢
  replace hvl := hideit hvl
  obtain ⟨w4, hr4, hM4, hG4, hz4⟩ := MapAt.put hP.out Try.underlying3 Try.underlying63 hC.out hok.out (.slice vo vl vk)
  refine wpZ_st _ w4 rfl rfl (exec_mput (.tmp 7) (.tmp 8) (.tmp 10) rfl rfl rfl rfl hr4) (fun _ => True) (.inl (by simp)) trivial ?_
  simp only [List.getElem_toArray, List.getElem_cons_zero, List.getElem_cons_succ, Act.put]
  refine wpZ_nil ?_
  have hKp : Keeps (fun i => i = pb) y5 w4 := Keeps.of_grown hG4 (.inl rfl) fun e => (hM4.notB e).elim
  have hF := hideit ((Keeps.of_ext (F := fun i => i = pb) hE.out).trans (F' := fun i => i = pb) hKp fun i hi => .inl hi)
  have hB9 := hideit (hBB.out.keep hKp fun i e => by rw [e]; exact hP.out.notB)
  replace hM4 := hideit hM4
  have hl0 := hvl.out
  clear hr4 hG4 hKp hBB hP hS hm hn hb hV hE
  subst hl0
  go_wp2
  go_ret
  exact ⟨rfl, vo, vk, hM4.out, hB9.out, hF.out⟩
set_option maxRecDepth 20000 in
set_option maxHeartbeats 4000000 in
theorem add_doP {F : Nat → Prop} {p C : Nat} {M : MLoc} {x : World} (h : Hd) (S : Int → Option (Nat → BitVec 8)) (P : Int → Option (Nat × (Nat → BitVec 8))) (ep : Int) (r : Rt) (sl : Int) (hM : MdM F p ⟨h, S, P, ep, r, true, sl⟩ C M x) (bm bn bb bs : Nat) (n : Int) (o : Option Addr) (l k : Nat) (f : Nat → BitVec 8)
    (hm : RowAt bm 1 (fun _ => .pointer (some ⟨p, 0, none⟩)) x) (hn : RowAt bn 1 (fun _ => .int .i64 n) x) (hb : RowAt bb 1 (fun _ => .slice o l k) x) (hV : PV (.slice o l k) l f x) (hB : RowAt bs 6 (fnV (fun i => [39, 40, 41, 43, 44, 38].getD i 0) (fun i => [#[], #[.pointer (some ⟨p, 0, none⟩)], #[], #[], #[], #[.pointer (some ⟨p, 0, none⟩)]].getD i #[]) (fun i => [#[.pointer (some ⟨bb, 0, none⟩)], #[], #[.pointer (some ⟨bm, 0, none⟩), .pointer (some ⟨bn, 0, none⟩)], #[.pointer (some ⟨bm, 0, none⟩), .pointer (some ⟨bn, 0, none⟩)], #[.pointer (some ⟨bb, 0, none⟩), .pointer (some ⟨bm, 0, none⟩), .pointer (some ⟨bn, 0, none⟩)], #[]].getD i #[])) x) (nF : ¬ F bs) (hok : okI n) (hC : C < maxLen) (E : Int) (s' : MSt) (hEs : E = adE ⟨h, S, P, ep, r, true, sl⟩ n l ∧ s' = if adE ⟨h, S, P, ep, r, true, sl⟩ n l = 0 then adS ⟨h, S, P, ep, r, true, sl⟩ n l f else ⟨h, S, P, ep, r, true, sl⟩) :
    Calls Try.prog 33 #[.pointer (some ⟨p, 0, none⟩), .slice (some ⟨bs, 0, none⟩) 6 6] x fun e w' => e = .returned (.int .i64 E) ∧ (∃ M', MdM F p s' (C + 1) M' w') ∧ Keeps F x w' := by
  obtain ⟨rfl, rfl⟩ := hEs
  have hS := hM.st
  have hw2 := rrek_any h M.sb M.pb ep r true sl p x hS
  have hw3 := a3_any h M.sb M.pb ep r true sl p bm bn n x hS hm hn
  unfold adE
  by_cases hl : 512 < l
  · rw [if_pos hl, if_neg (show ¬ (1 : Int) = 0 by decide)]
    refine (do_refuse h M.sb M.pb ep r sl p bs 6 0 1 (fun i => [39, 40, 41, 43, 44, 38].getD i 0) (fun i => [#[], #[.pointer (some ⟨p, 0, none⟩)], #[], #[], #[], #[.pointer (some ⟨p, 0, none⟩)]].getD i #[]) (fun i => [#[.pointer (some ⟨bb, 0, none⟩)], #[], #[.pointer (some ⟨bm, 0, none⟩), .pointer (some ⟨bn, 0, none⟩)], #[.pointer (some ⟨bm, 0, none⟩), .pointer (some ⟨bn, 0, none⟩)], #[.pointer (some ⟨bb, 0, none⟩), .pointer (some ⟨bm, 0, none⟩), .pointer (some ⟨bn, 0, none⟩)], #[]].getD i #[]) x hS (by decide) hB (by decide) (by decide) (fun i hi args X => by rcases (by omega : i = 0 ∨ i = 1 ∨ i = 2 ∨ i = 3 ∨ i = 4 ∨ i = 5) with rfl | rfl | rfl | rfl | rfl | rfl <;> simp [go_sem]) (fun i hi => ?_) ?_).mono ?_
    · exact absurd hi (Nat.not_lt_zero _)
    · exact a1_no bb o l k x hb hl
    · rintro e w' ⟨q1, rfl⟩
      exact ⟨q1, ⟨M, hM.mono (Nat.le_succ C)⟩, Keeps.refl _ _⟩
  · rw [if_neg hl]
    have hw1 := a1_ok bb o l k x hb hl
    by_cases hr : r.rk = true
    · rw [if_pos hr] at hw2
      rw [if_pos (show (⟨h, S, P, ep, r, true, sl⟩ : MSt).r.rk = true from hr), if_neg (show ¬ (230 : Int) = 0 by decide)]
      refine (do_refuse h M.sb M.pb ep r sl p bs 6 1 230 (fun i => [39, 40, 41, 43, 44, 38].getD i 0) (fun i => [#[], #[.pointer (some ⟨p, 0, none⟩)], #[], #[], #[], #[.pointer (some ⟨p, 0, none⟩)]].getD i #[]) (fun i => [#[.pointer (some ⟨bb, 0, none⟩)], #[], #[.pointer (some ⟨bm, 0, none⟩), .pointer (some ⟨bn, 0, none⟩)], #[.pointer (some ⟨bm, 0, none⟩), .pointer (some ⟨bn, 0, none⟩)], #[.pointer (some ⟨bb, 0, none⟩), .pointer (some ⟨bm, 0, none⟩), .pointer (some ⟨bn, 0, none⟩)], #[]].getD i #[]) x hS (by decide) hB (by decide) (by decide) (fun i hi args X => by rcases (by omega : i = 0 ∨ i = 1 ∨ i = 2 ∨ i = 3 ∨ i = 4 ∨ i = 5) with rfl | rfl | rfl | rfl | rfl | rfl <;> simp [go_sem]) (fun i hi => ?_) ?_).mono ?_
      · obtain rfl : i = 0 := by omega
        exact hw1
      · exact hw2
      · rintro e w' ⟨q1, rfl⟩
        exact ⟨q1, ⟨M, hM.mono (Nat.le_succ C)⟩, Keeps.refl _ _⟩
    · rw [if_neg hr] at hw2
      rw [if_neg (show ¬ (⟨h, S, P, ep, r, true, sl⟩ : MSt).r.rk = true from hr)]
      by_cases hg : 0 ≤ n ∧ n < h.sl
      · rw [if_pos hg] at hw3
        rw [if_pos hg]
        cases hp : (P n).isSome with
        | true =>
          have hm2 : (M.m n).isSome = true := (hM.hasP n).trans hp
          have hw4 := a4_has h M.sb M.pb ep r true sl p bm bn C M.m n x hS hm hn hM.mpP hok hm2
          rw [if_pos rfl, if_neg (show ¬ (5 : Int) = 0 by decide)]
          refine (do_refuse h M.sb M.pb ep r sl p bs 6 3 5 (fun i => [39, 40, 41, 43, 44, 38].getD i 0) (fun i => [#[], #[.pointer (some ⟨p, 0, none⟩)], #[], #[], #[], #[.pointer (some ⟨p, 0, none⟩)]].getD i #[]) (fun i => [#[.pointer (some ⟨bb, 0, none⟩)], #[], #[.pointer (some ⟨bm, 0, none⟩), .pointer (some ⟨bn, 0, none⟩)], #[.pointer (some ⟨bm, 0, none⟩), .pointer (some ⟨bn, 0, none⟩)], #[.pointer (some ⟨bb, 0, none⟩), .pointer (some ⟨bm, 0, none⟩), .pointer (some ⟨bn, 0, none⟩)], #[]].getD i #[]) x hS (by decide) hB (by decide) (by decide) (fun i hi args X => by rcases (by omega : i = 0 ∨ i = 1 ∨ i = 2 ∨ i = 3 ∨ i = 4 ∨ i = 5) with rfl | rfl | rfl | rfl | rfl | rfl <;> simp [go_sem]) (fun i hi => ?_) ?_).mono ?_
          · rcases (by omega : i = 0 ∨ i = 1 ∨ i = 2) with rfl | rfl | rfl
            · exact hw1
            · exact hw2
            · exact hw3
          · exact hw4
          · rintro e w' ⟨q1, rfl⟩
            exact ⟨q1, ⟨M, hM.mono (Nat.le_succ C)⟩, Keeps.refl _ _⟩
        | false =>
          have hm2 : (M.m n).isSome = false := (hM.hasP n).trans hp
          have hw4 := a4_hasnt h M.sb M.pb ep r true sl p bm bn C M.m n x hS hm hn hM.mpP hok hm2
          rw [if_neg (by decide), if_pos rfl]
          have hS2 : ∀ W, Keeps (fun i => i = M.pb) x W → RowAt p 64 (mdV h M.sb M.pb ep r true sl) W := fun W hK => hS.keep hK hM.pm
          refine (do_pass h M.sb M.pb ep r sl p bs 6 4 (fun i => [39, 40, 41, 43, 44, 38].getD i 0) (fun i => [#[], #[.pointer (some ⟨p, 0, none⟩)], #[], #[], #[], #[.pointer (some ⟨p, 0, none⟩)]].getD i #[]) (fun i => [#[.pointer (some ⟨bb, 0, none⟩)], #[], #[.pointer (some ⟨bm, 0, none⟩), .pointer (some ⟨bn, 0, none⟩)], #[.pointer (some ⟨bm, 0, none⟩), .pointer (some ⟨bn, 0, none⟩)], #[.pointer (some ⟨bb, 0, none⟩), .pointer (some ⟨bm, 0, none⟩), .pointer (some ⟨bn, 0, none⟩)], #[]].getD i #[]) x hS (by decide) hB rfl (fun W => ∃ vo vk, MapAt Try.prog 3 M.pb (C + 1) (mset M.m n (some (.slice vo l vk))) W ∧ BB (.slice vo l vk) l f W ∧ Keeps (fun i => i = M.pb) x W)
            (fun W => (∃ vo vk, MapAt Try.prog 3 M.pb (C + 1) (mset M.m n (some (.slice vo l vk))) W ∧ BB (.slice vo l vk) l f W ∧ Keeps (fun i => i = M.pb ∨ i = p) x W) ∧ RowAt p 64 (mdV h M.sb M.pb ep { r with ct := r.ct + 1#64 } true sl) W)
            (fun W ⟨_, _, _, _, hK⟩ => hB.keep hK fun e => nF (by rw [e]; exact hM.fm)) (fun W ⟨⟨_, _, _, _, hK⟩, _⟩ => hB.keep hK fun e => nF (by rcases e with e | e <;> rw [e]; exact hM.fm; exact hM.fp))
            (fun i hi args X => by rcases (by omega : i = 0 ∨ i = 1 ∨ i = 2 ∨ i = 3 ∨ i = 4 ∨ i = 5) with rfl | rfl | rfl | rfl | rfl | rfl <;> simp [go_sem]) (fun i hi => ?_) ?_ (fun W hW => ?_)).mono ?_
          · rcases (by omega : i = 0 ∨ i = 1 ∨ i = 2 ∨ i = 3) with rfl | rfl | rfl | rfl
            · exact hw1
            · exact hw2
            · exact hw3
            · exact hw4
          · exact a5_anyP h M.sb M.pb ep r true sl p bm bn bb C M.m n o l k f x hS hm hn hb hV hM.mpP hok hC (by omega)
          · obtain ⟨vo, vk, h1, h2, h3⟩ := hW
            exact (count_any h M.sb M.pb ep r true sl p W (hS2 W h3)).mono fun e w' ⟨q1, q2, q3⟩ => ⟨q1, ⟨vo, vk, h1.keep q2 fun e => hM.pm e.symm, h2.keep q2 fun i hi hb => by rw [hi] at hb; exact hM.nb p hM.fp (h3.bk p (hM.lt p hM.fp) hb), (h3.mono fun i hi => .inl hi).trans q2 fun i hi => .inl (.inr hi)⟩, q3⟩
          · rintro e w' ⟨q1, ⟨vo, vk, q2, q3, q4⟩, q5⟩
            have hGF : ∀ i, (i = M.pb ∨ i = p) → F i := fun i hi => by rcases hi with rfl | rfl; exact hM.fm; exact hM.fp
            refine ⟨q1, ⟨_, hM.stepP q4 hGF (adS ⟨h, S, P, ep, r, true, sl⟩ n l f) rfl rfl hM.eps _ q5 q2 (Nat.le_succ C) (fun x => ?_) (fun x v hx => ?_) (fun x hx => ?_) (fun e => by rcases e with e | e; exact hM.sm e; exact hM.ps e.symm)⟩, q4.mono hGF⟩
            · show (if x = n then _ else M.m x).isSome = (if x = n then some (l, f) else P x).isSome
              by_cases e : x = n
              · rw [if_pos e, if_pos e]; rfl
              · rw [if_neg e, if_neg e]; exact hM.hasP x
            · have hx : (if x = n then some (Value.slice vo l vk) else M.m x) = some v := hx
              by_cases e : x = n
              · rw [if_pos e] at hx
                injection hx with hx
                subst hx
                exact ⟨l, f, if_pos e, by omega, q3⟩
              · rw [if_neg e] at hx
                obtain ⟨l', f', a1, a2, a3⟩ := hM.cont x v hx
                exact ⟨l', f', (if_neg e).trans a1, a2, a3.keep q4 fun i hi => hM.nb i (hGF i hi)⟩
            · have hx : (if x = n then some (l, f) else P x) ≠ none := hx
              by_cases e : x = n
              · subst e; exact hg
              · rw [if_neg e] at hx; exact hM.kP x hx
      · rw [if_neg hg] at hw3
        rw [if_neg hg, if_neg (show ¬ (100 : Int) = 0 by decide)]
        refine (do_refuse h M.sb M.pb ep r sl p bs 6 2 100 (fun i => [39, 40, 41, 43, 44, 38].getD i 0) (fun i => [#[], #[.pointer (some ⟨p, 0, none⟩)], #[], #[], #[], #[.pointer (some ⟨p, 0, none⟩)]].getD i #[]) (fun i => [#[.pointer (some ⟨bb, 0, none⟩)], #[], #[.pointer (some ⟨bm, 0, none⟩), .pointer (some ⟨bn, 0, none⟩)], #[.pointer (some ⟨bm, 0, none⟩), .pointer (some ⟨bn, 0, none⟩)], #[.pointer (some ⟨bb, 0, none⟩), .pointer (some ⟨bm, 0, none⟩), .pointer (some ⟨bn, 0, none⟩)], #[]].getD i #[]) x hS (by decide) hB (by decide) (by decide) (fun i hi args X => by rcases (by omega : i = 0 ∨ i = 1 ∨ i = 2 ∨ i = 3 ∨ i = 4 ∨ i = 5) with rfl | rfl | rfl | rfl | rfl | rfl <;> simp [go_sem]) (fun i hi => ?_) ?_).mono ?_
        · rcases (by omega : i = 0 ∨ i = 1) with rfl | rfl
          · exact hw1
          · exact hw2
        · exact hw3
        · rintro e w' ⟨q1, rfl⟩
          exact ⟨q1, ⟨M, hM.mono (Nat.le_succ C)⟩, Keeps.refl _ _⟩
set_option maxRecDepth 20000 in
set_option maxHeartbeats 4000000 in
theorem add_openP {F : Nat → Prop} {p C : Nat} {M : MLoc} {w : World} (h : Hd) (S : Int → Option (Nat → BitVec 8)) (P : Int → Option (Nat × (Nat → BitVec 8))) (ep : Int) (r : Rt) (sl : Int) (hM : MdM F p ⟨h, S, P, ep, r, true, sl⟩ C M w) (n : Int) (o : Option Addr) (l k : Nat) (f : Nat → BitVec 8) (hV : PV (.slice o l k) l f w) (hok : okI n) (hC : C < maxLen) (E : Int) (s' : MSt) (hEs : E = adE ⟨h, S, P, ep, r, true, sl⟩ n l ∧ s' = if adE ⟨h, S, P, ep, r, true, sl⟩ n l = 0 then adS ⟨h, S, P, ep, r, true, sl⟩ n l f else ⟨h, S, P, ep, r, true, sl⟩) :
    Calls Try.prog 13 #[.pointer (some ⟨p, 0, none⟩), .int .i64 n, .slice o l k] w fun e w' => e = .returned (.int .i64 E) ∧ (∃ M', MdM F p s' (C + 1) M' w') ∧ Keeps F w w' := by
  have hlt := hideit hM.lt
  replace hM := hideit hM
  replace hV := hideit hV
  replace hok := hideit hok
  replace hC := hideit hC
  replace hEs := hideit hEs
  have hE := hideit (Ext.refl w)
  go_enter Try.func13, Try.ntmps13
  go_upto_region 0 with (fail)
  refine wp_region_lit ?_
  have A0 := hideit (row1_new w (.pointer (some ⟨p, 0, none⟩)) 26)
  have XB : Ext w (w.alloc (.cells #[.pointer (some ⟨p, 0, none⟩)] 26)) := (Below.refl _ _).alloc (Nat.le_refl _) _
  have L0 := hideit (hM.out.ext XB)
  have L1 := hideit (hV.out.ext XB)
  have AE := hideit (Ext.trans hE.out (XB))
  have AB := hideit (hE.out.size)
  clear XB
  refine wpList_to rfl (.pointer (some ⟨w.heap.size, 0, none⟩)) (w.alloc (.cells #[.pointer (some ⟨p, 0, none⟩)] 26)) (by simp [go_sem]) ?_
  simp only [Act.put, List.setIfInBounds_toArray, List.set_cons_zero, List.set_cons_succ]
  generalize w.alloc (.cells #[.pointer (some ⟨p, 0, none⟩)] 26) = x2 at A0 L0 L1 AE ⊢
  obtain ⟨z1, ez1⟩ : ∃ b, b = w.heap.size := ⟨_, rfl⟩
  have ABz1 : Hid (w.heap.size ≤ z1) := by rw [ez1]; exact AB.out
  clear AB
  rw [← ez1] at A0  ⊢
  clear ez1
  have Hz1 := A0
  clear A0
  replace hM := L0
  clear L0
  replace hV := L1
  clear L1
  replace hE := AE
  clear AE
  have A0 := hideit (row1_new x2 (.int .i64 (n)) 3)
  have XB : Ext x2 (x2.alloc (.cells #[.int .i64 (n)] 3)) := (Below.refl _ _).alloc (Nat.le_refl _) _
  have A1 := hideit (Hz1.out.carry XB)
  have L0 := hideit (hM.out.ext XB)
  have L1 := hideit (hV.out.ext XB)
  have AE := hideit (Ext.trans hE.out (XB))
  have AB := hideit (hE.out.size)
  have D0 : Hid (z1 ≠ x2.heap.size) := Nat.ne_of_lt Hz1.out.2.2
  clear XB
  refine wpList_to rfl (.pointer (some ⟨x2.heap.size, 0, none⟩)) (x2.alloc (.cells #[.int .i64 (n)] 3)) (by simp [go_sem]) ?_
  simp only [Act.put, List.setIfInBounds_toArray, List.set_cons_zero, List.set_cons_succ]
  generalize x2.alloc (.cells #[.int .i64 (n)] 3) = x4 at A0 A1 L0 L1 AE ⊢
  obtain ⟨z3, ez3⟩ : ∃ b, b = x2.heap.size := ⟨_, rfl⟩
  have ABz3 : Hid (w.heap.size ≤ z3) := by rw [ez3]; exact AB.out
  clear AB
  rw [← ez3] at A0 D0 ⊢
  clear ez3
  have Hz3 := A0
  clear A0
  replace Hz1 := A1
  clear A1
  replace hM := L0
  clear L0
  replace hV := L1
  clear L1
  replace hE := AE
  clear AE
  have Dz3_0 := D0
  clear D0
  have A0 := hideit (row1_new x4 (.slice o l k) 22)
  have XB : Ext x4 (x4.alloc (.cells #[.slice o l k] 22)) := (Below.refl _ _).alloc (Nat.le_refl _) _
  have A1 := hideit (Hz1.out.carry XB)
  have A2 := hideit (Hz3.out.carry XB)
  have L0 := hideit (hM.out.ext XB)
  have L1 := hideit (hV.out.ext XB)
  have AE := hideit (Ext.trans hE.out (XB))
  have AB := hideit (hE.out.size)
  have D0 : Hid (z1 ≠ x4.heap.size) := Nat.ne_of_lt Hz1.out.2.2
  have D1 : Hid (z3 ≠ x4.heap.size) := Nat.ne_of_lt Hz3.out.2.2
  clear XB
  refine wpList_to rfl (.pointer (some ⟨x4.heap.size, 0, none⟩)) (x4.alloc (.cells #[.slice o l k] 22)) (by simp [go_sem]) ?_
  simp only [Act.put, List.setIfInBounds_toArray, List.set_cons_zero, List.set_cons_succ]
  generalize x4.alloc (.cells #[.slice o l k] 22) = x6 at A0 A1 A2 L0 L1 AE ⊢
  obtain ⟨z5, ez5⟩ : ∃ b, b = x4.heap.size := ⟨_, rfl⟩
  have ABz5 : Hid (w.heap.size ≤ z5) := by rw [ez5]; exact AB.out
  clear AB
  rw [← ez5] at A0 D0 D1 ⊢
  clear ez5
  have Hz5 := A0
  clear A0
  replace Hz1 := A1
  clear A1
  replace Hz3 := A2
  clear A2
  replace hM := L0
  clear L0
  replace hV := L1
  clear L1
  replace hE := AE
  clear AE
  have Dz5_0 := D0
  clear D0
  have Dz5_1 := D1
  clear D1
  refine xm [some (.int .i64 0)] (by kernel_rfl) (by simp [xr, go_sem]) ?_
  simp only [xw, p0, p1, p2, p3]
  go_upto_region 1 with (fail)
  refine wp_region_lit ?_
  have m7 : x6.cell? ⟨z1, 0, none⟩ = some (.pointer (some ⟨p, 0, none⟩)) := Hz1.out.1 0 (by decide)
  refine xm [some (.pointer (some ⟨p, 0, none⟩)), some (.func (.func 39) #[] #[.pointer (some ⟨z5, 0, none⟩)]), some (.pointer (some ⟨p, 0, none⟩)), some (.func (.func 40) #[.pointer (some ⟨p, 0, none⟩)] #[]), some (.func (.func 41) #[] #[.pointer (some ⟨z1, 0, none⟩), .pointer (some ⟨z3, 0, none⟩)]), some (.func (.func 43) #[] #[.pointer (some ⟨z1, 0, none⟩), .pointer (some ⟨z3, 0, none⟩)]), some (.func (.func 44) #[] #[.pointer (some ⟨z5, 0, none⟩), .pointer (some ⟨z1, 0, none⟩), .pointer (some ⟨z3, 0, none⟩)]), some (.pointer (some ⟨p, 0, none⟩)), some (.func (.func 38) #[.pointer (some ⟨p, 0, none⟩)] #[])] (by kernel_rfl) (by simp [xr, go_sem, m7]) ?_
  simp only [xw, p0, p1, p2, p3]
  clear m7
  have A0 := hideit (RowAt.newOf x6 6 (fnV (fun i => [39, 40, 41, 43, 44, 38].getD i 0) (fun i => [#[], #[.pointer (some ⟨p, 0, none⟩)], #[], #[], #[], #[.pointer (some ⟨p, 0, none⟩)]].getD i #[]) (fun i => [#[.pointer (some ⟨z5, 0, none⟩)], #[], #[.pointer (some ⟨z1, 0, none⟩), .pointer (some ⟨z3, 0, none⟩)], #[.pointer (some ⟨z1, 0, none⟩), .pointer (some ⟨z3, 0, none⟩)], #[.pointer (some ⟨z5, 0, none⟩), .pointer (some ⟨z1, 0, none⟩), .pointer (some ⟨z3, 0, none⟩)], #[]].getD i #[])) 47 #[.func (.func 39) #[] #[.pointer (some ⟨z5, 0, none⟩)], .func (.func 40) #[.pointer (some ⟨p, 0, none⟩)] #[], .func (.func 41) #[] #[.pointer (some ⟨z1, 0, none⟩), .pointer (some ⟨z3, 0, none⟩)], .func (.func 43) #[] #[.pointer (some ⟨z1, 0, none⟩), .pointer (some ⟨z3, 0, none⟩)], .func (.func 44) #[] #[.pointer (some ⟨z5, 0, none⟩), .pointer (some ⟨z1, 0, none⟩), .pointer (some ⟨z3, 0, none⟩)], .func (.func 38) #[.pointer (some ⟨p, 0, none⟩)] #[]] (fun j hj => by rcases (by omega : j = 0 ∨ j = 1 ∨ j = 2 ∨ j = 3 ∨ j = 4 ∨ j = 5) with rfl | rfl | rfl | rfl | rfl | rfl <;> rfl))
  have XB : Ext x6 (x6.alloc (.cells #[.func (.func 39) #[] #[.pointer (some ⟨z5, 0, none⟩)], .func (.func 40) #[.pointer (some ⟨p, 0, none⟩)] #[], .func (.func 41) #[] #[.pointer (some ⟨z1, 0, none⟩), .pointer (some ⟨z3, 0, none⟩)], .func (.func 43) #[] #[.pointer (some ⟨z1, 0, none⟩), .pointer (some ⟨z3, 0, none⟩)], .func (.func 44) #[] #[.pointer (some ⟨z5, 0, none⟩), .pointer (some ⟨z1, 0, none⟩), .pointer (some ⟨z3, 0, none⟩)], .func (.func 38) #[.pointer (some ⟨p, 0, none⟩)] #[]] 47)) := (Below.refl _ _).alloc (Nat.le_refl _) _
  have A1 := hideit (Hz1.out.carry XB)
  have A2 := hideit (Hz3.out.carry XB)
  have A3 := hideit (Hz5.out.carry XB)
  have L0 := hideit (hM.out.ext XB)
  have L1 := hideit (hV.out.ext XB)
  have AE := hideit (Ext.trans hE.out (XB))
  have AB := hideit (hE.out.size)
  have D0 : Hid (z1 ≠ x6.heap.size) := Nat.ne_of_lt Hz1.out.2.2
  have D1 : Hid (z3 ≠ x6.heap.size) := Nat.ne_of_lt Hz3.out.2.2
  have D2 : Hid (z5 ≠ x6.heap.size) := Nat.ne_of_lt Hz5.out.2.2
  clear XB
  refine wpList_to rfl (.slice (some ⟨x6.heap.size, 0, none⟩) 6 6) (x6.alloc (.cells #[.func (.func 39) #[] #[.pointer (some ⟨z5, 0, none⟩)], .func (.func 40) #[.pointer (some ⟨p, 0, none⟩)] #[], .func (.func 41) #[] #[.pointer (some ⟨z1, 0, none⟩), .pointer (some ⟨z3, 0, none⟩)], .func (.func 43) #[] #[.pointer (some ⟨z1, 0, none⟩), .pointer (some ⟨z3, 0, none⟩)], .func (.func 44) #[] #[.pointer (some ⟨z5, 0, none⟩), .pointer (some ⟨z1, 0, none⟩), .pointer (some ⟨z3, 0, none⟩)], .func (.func 38) #[.pointer (some ⟨p, 0, none⟩)] #[]] 47)) (by simp [go_sem]) ?_
  simp only [Act.put, List.setIfInBounds_toArray, List.set_cons_zero, List.set_cons_succ]
  generalize x6.alloc (.cells #[.func (.func 39) #[] #[.pointer (some ⟨z5, 0, none⟩)], .func (.func 40) #[.pointer (some ⟨p, 0, none⟩)] #[], .func (.func 41) #[] #[.pointer (some ⟨z1, 0, none⟩), .pointer (some ⟨z3, 0, none⟩)], .func (.func 43) #[] #[.pointer (some ⟨z1, 0, none⟩), .pointer (some ⟨z3, 0, none⟩)], .func (.func 44) #[] #[.pointer (some ⟨z5, 0, none⟩), .pointer (some ⟨z1, 0, none⟩), .pointer (some ⟨z3, 0, none⟩)], .func (.func 38) #[.pointer (some ⟨p, 0, none⟩)] #[]] 47) = x11 at A0 A1 A2 A3 L0 L1 AE ⊢
  obtain ⟨z10, ez10⟩ : ∃ b, b = x6.heap.size := ⟨_, rfl⟩
  have ABz10 : Hid (w.heap.size ≤ z10) := by rw [ez10]; exact AB.out
  clear AB
  rw [← ez10] at A0 D0 D1 D2 ⊢
  clear ez10
  have Hz10 := A0
  clear A0
  replace Hz1 := A1
  clear A1
  replace Hz3 := A2
  clear A2
  replace Hz5 := A3
  clear A3
  replace hM := L0
  clear L0
  replace hV := L1
  clear L1
  replace hE := AE
  clear AE
  have Dz10_0 := D0
  clear D0
  have Dz10_1 := D1
  clear D1
  have Dz10_2 := D2
  clear D2
  have nF : ¬ F z10 := fun e => by have := hlt.out z10 e; have := ABz10.out; omega
  have kd := hideit (add_doP h S P ep r sl hM.out z1 z3 z5 z10 n o l k f Hz1.out Hz3.out Hz5.out hV.out Hz10.out nF hok.out hC.out E s' hEs.out)
  refine wpList_call rfl (by simp [go_sem]) ((kd.out).mono ?_)
  rintro e y9 ⟨rfl, hM9, hK9⟩
  refine ⟨_, rfl, ?_⟩
  simp only [Act.put, List.setIfInBounds_toArray, List.set_cons_zero, List.set_cons_succ]
  replace hM9 := hideit hM9
  replace hK9 := hideit ((Keeps.of_ext hE.out).trans hK9 fun i hi => .inl hi)
  clear kd hM nF
  refine xm [some (.int .i64 (E))] (by kernel_rfl) (by simp [xr, go_sem]) ?_
  simp only [xw, p0, p1, p2, p3]
  go_wp2
  go_ret
  exact ⟨rfl, hM9.out, hK9.out⟩
set_option maxRecDepth 20000 in
set_option maxHeartbeats 4000000 in
theorem write_doP {F : Nat → Prop} {p C : Nat} {M : MLoc} {x : World} (h : Hd) (S : Int → Option (Nat → BitVec 8)) (P : Int → Option (Nat × (Nat → BitVec 8))) (ep : Int) (r : Rt) (sl : Int) (hM : MdM F p ⟨h, S, P, ep, r, true, sl⟩ C M x) (bm bn bb bs : Nat) (n : Int) (o : Option Addr) (l k : Nat) (f : Nat → BitVec 8)
    (hm : RowAt bm 1 (fun _ => .pointer (some ⟨p, 0, none⟩)) x) (hn : RowAt bn 1 (fun _ => .int .i64 n) x) (hb : RowAt bb 1 (fun _ => .slice o l k) x) (hV : PV (.slice o l k) l f x) (hB : RowAt bs 4 (fnV (fun i => [34, 35, 37, 38].getD i 0) (fun i => [#[], #[], #[], #[.pointer (some ⟨p, 0, none⟩)]].getD i #[]) (fun i => [#[.pointer (some ⟨bm, 0, none⟩), .pointer (some ⟨bn, 0, none⟩)], #[.pointer (some ⟨bb, 0, none⟩)], #[.pointer (some ⟨bb, 0, none⟩), .pointer (some ⟨bm, 0, none⟩), .pointer (some ⟨bn, 0, none⟩)], #[]].getD i #[])) x) (nF : ¬ F bs) (hok : okI n) (hC : C < maxLen) (E : Int) (s' : MSt) (hEs : E = wrE ⟨h, S, P, ep, r, true, sl⟩ n l ∧ s' = (if wrE ⟨h, S, P, ep, r, true, sl⟩ n l = 0 then wrS ⟨h, S, P, ep, r, true, sl⟩ n f else ⟨h, S, P, ep, r, true, sl⟩)) :
    Calls Try.prog 33 #[.pointer (some ⟨p, 0, none⟩), .slice (some ⟨bs, 0, none⟩) 4 4] x fun e w' => e = .returned (.int .i64 E) ∧ MdM F p s' (C + 1) M w' ∧ Keeps F x w' := by
  obtain ⟨rfl, rfl⟩ := hEs
  have hS := hM.st
  have hw1 := w1_any h M.sb M.pb ep r true sl p bm bn n x hS hm hn
  unfold wrE
  by_cases hr : 0 ≤ n ∧ n < h.se
  · rw [if_pos hr] at hw1
    rw [if_pos hr]
    by_cases hl : l = 512
    · rw [if_pos hl, if_pos rfl]
      subst hl
      obtain ⟨a, rfl⟩ : ∃ a, o = some a := by
        rcases hV with ⟨_, h0⟩ | ⟨a, c, h1, _⟩
        · omega
        · injection h1 with h1; exact ⟨a, h1⟩
      have hS2 : ∀ W, Keeps (fun i => i = M.sb) x W → RowAt p 64 (mdV h M.sb M.pb ep r true sl) W := fun W hK => hS.keep hK hM.ps
      refine (do_pass h M.sb M.pb ep r sl p bs 4 2 (fun i => [34, 35, 37, 38].getD i 0) (fun i => [#[], #[], #[], #[.pointer (some ⟨p, 0, none⟩)]].getD i #[]) (fun i => [#[.pointer (some ⟨bm, 0, none⟩), .pointer (some ⟨bn, 0, none⟩)], #[.pointer (some ⟨bb, 0, none⟩)], #[.pointer (some ⟨bb, 0, none⟩), .pointer (some ⟨bm, 0, none⟩), .pointer (some ⟨bn, 0, none⟩)], #[]].getD i #[]) x hS (by decide) hB rfl (fun W => MapAt Try.prog 3 M.sb (C + 1) (mset (fun x => (S x).map secV) n (some (secV f))) W ∧ Keeps (fun i => i = M.sb) x W)
        (fun W => (MapAt Try.prog 3 M.sb (C + 1) (mset (fun x => (S x).map secV) n (some (secV f))) W ∧ Keeps (fun i => i = M.sb ∨ i = p) x W) ∧ RowAt p 64 (mdV h M.sb M.pb ep { r with ct := r.ct + 1#64 } true sl) W)
        (fun W hW => hB.keep hW.2 fun e => nF (by rw [e]; exact hM.fs)) (fun W hW => hB.keep hW.1.2 fun e => nF (by rcases e with e | e <;> rw [e]; exact hM.fs; exact hM.fp))
        (fun i hi args X => by rcases (by omega : i = 0 ∨ i = 1 ∨ i = 2 ∨ i = 3) with rfl | rfl | rfl | rfl <;> simp [go_sem]) (fun i hi => ?_) ?_ (fun W hW => ?_)).mono ?_
      · rcases (by omega : i = 0 ∨ i = 1) with rfl | rfl
        · exact hw1
        · exact w2_ok bb (some a) 512 k x hb rfl
      · exact (w3_any h M.sb M.pb ep r true sl p bm bn bb C _ n a k f x hS hm hn hb (hV.bv (by decide)) hM.mpS hok hC).mono fun e w' ⟨q1, q2, q3⟩ => ⟨q1, q2, q3⟩
      · exact (count_any h M.sb M.pb ep r true sl p W (hS2 W hW.2)).mono fun e w' ⟨q1, q2, q3⟩ => ⟨q1, ⟨hW.1.keep q2 fun e => hM.ps e.symm, (hW.2.mono fun i hi => .inl hi).trans q2 fun i hi => .inl (.inr hi)⟩, q3⟩
      · rintro e w' ⟨q1, ⟨q2, q3⟩, q4⟩
        refine ⟨q1, hM.step q3 (fun i hi => by rcases hi with rfl | rfl; exact hM.fs; exact hM.fp) (wrS ⟨h, S, P, ep, r, true, sl⟩ n f) rfl rfl hM.eps q4 (q2.congr fun x hx => ?_) (Nat.le_succ C) (fun x hx => ?_) (fun e => by rcases e with e | e; exact hM.sm e.symm; exact hM.pm e.symm), q3.mono fun i hi => by rcases hi with rfl | rfl; exact hM.fs; exact hM.fp⟩
        · show (if x = n then _ else _) = Option.map secV (if x = n then _ else _)
          by_cases e : x = n
          · rw [if_pos e, if_pos e]; rfl
          · rw [if_neg e, if_neg e]
        · have hx : (if x = n then some f else S x) ≠ none := hx
          by_cases e : x = n
          · subst e; exact hr
          · rw [if_neg e] at hx; exact hM.kS x hx
    · rw [if_neg hl, if_neg (show ¬ (101 : Int) = 0 by decide)]
      refine (do_refuse h M.sb M.pb ep r sl p bs 4 1 101 (fun i => [34, 35, 37, 38].getD i 0) (fun i => [#[], #[], #[], #[.pointer (some ⟨p, 0, none⟩)]].getD i #[]) (fun i => [#[.pointer (some ⟨bm, 0, none⟩), .pointer (some ⟨bn, 0, none⟩)], #[.pointer (some ⟨bb, 0, none⟩)], #[.pointer (some ⟨bb, 0, none⟩), .pointer (some ⟨bm, 0, none⟩), .pointer (some ⟨bn, 0, none⟩)], #[]].getD i #[]) x hS (by decide) hB (by decide) (by decide) (fun i hi args X => by rcases (by omega : i = 0 ∨ i = 1 ∨ i = 2 ∨ i = 3) with rfl | rfl | rfl | rfl <;> simp [go_sem]) (fun i hi => ?_) ?_).mono ?_
      · obtain rfl : i = 0 := by omega
        exact hw1
      · exact w2_no bb o l k x hb hl
      · rintro e w' ⟨q1, rfl⟩
        exact ⟨q1, hM.mono (Nat.le_succ C), Keeps.refl _ _⟩
  · rw [if_neg hr] at hw1
    rw [if_neg hr, if_neg (show ¬ (100 : Int) = 0 by decide)]
    refine (do_refuse h M.sb M.pb ep r sl p bs 4 0 100 (fun i => [34, 35, 37, 38].getD i 0) (fun i => [#[], #[], #[], #[.pointer (some ⟨p, 0, none⟩)]].getD i #[]) (fun i => [#[.pointer (some ⟨bm, 0, none⟩), .pointer (some ⟨bn, 0, none⟩)], #[.pointer (some ⟨bb, 0, none⟩)], #[.pointer (some ⟨bb, 0, none⟩), .pointer (some ⟨bm, 0, none⟩), .pointer (some ⟨bn, 0, none⟩)], #[]].getD i #[]) x hS (by decide) hB (by decide) (by decide) (fun i hi args X => by rcases (by omega : i = 0 ∨ i = 1 ∨ i = 2 ∨ i = 3) with rfl | rfl | rfl | rfl <;> simp [go_sem]) (fun i hi => absurd hi (Nat.not_lt_zero _)) ?_).mono ?_
    · exact hw1
    rintro e w' ⟨q1, rfl⟩
    exact ⟨q1, hM.mono (Nat.le_succ C), Keeps.refl _ _⟩
set_option maxRecDepth 20000 in
set_option maxHeartbeats 4000000 in
theorem write_openP {F : Nat → Prop} {p C : Nat} {M : MLoc} {w : World} (h : Hd) (S : Int → Option (Nat → BitVec 8)) (P : Int → Option (Nat × (Nat → BitVec 8))) (ep : Int) (r : Rt) (sl : Int) (hM : MdM F p ⟨h, S, P, ep, r, true, sl⟩ C M w) (n : Int) (o : Option Addr) (l k : Nat) (f : Nat → BitVec 8) (hV : PV (.slice o l k) l f w) (hok : okI n) (hC : C < maxLen) (E : Int) (s' : MSt) (hEs : E = wrE ⟨h, S, P, ep, r, true, sl⟩ n l ∧ s' = if wrE ⟨h, S, P, ep, r, true, sl⟩ n l = 0 then wrS ⟨h, S, P, ep, r, true, sl⟩ n f else ⟨h, S, P, ep, r, true, sl⟩) :
    Calls Try.prog 11 #[.pointer (some ⟨p, 0, none⟩), .int .i64 n, .slice o l k] w fun e w' => e = .returned (.int .i64 E) ∧ MdM F p s' (C + 1) M w' ∧ Keeps F w w' := by
  have hlt := hideit hM.lt
  replace hM := hideit hM
  replace hV := hideit hV
  replace hok := hideit hok
  replace hC := hideit hC
  replace hEs := hideit hEs
  have hE := hideit (Ext.refl w)
  go_enter Try.func11, Try.ntmps11
  go_upto_region 0 with (fail)
  refine wp_region_lit ?_
  have A0 := hideit (row1_new w (.pointer (some ⟨p, 0, none⟩)) 26)
  have XB : Ext w (w.alloc (.cells #[.pointer (some ⟨p, 0, none⟩)] 26)) := (Below.refl _ _).alloc (Nat.le_refl _) _
  have L0 := hideit (hM.out.ext XB)
  have L1 := hideit (hV.out.ext XB)
  have AE := hideit (Ext.trans hE.out (XB))
  have AB := hideit (hE.out.size)
  clear XB
  refine wpList_to rfl (.pointer (some ⟨w.heap.size, 0, none⟩)) (w.alloc (.cells #[.pointer (some ⟨p, 0, none⟩)] 26)) (by simp [go_sem]) ?_
  simp only [Act.put, List.setIfInBounds_toArray, List.set_cons_zero, List.set_cons_succ]
  generalize w.alloc (.cells #[.pointer (some ⟨p, 0, none⟩)] 26) = x2 at A0 L0 L1 AE ⊢
  obtain ⟨z1, ez1⟩ : ∃ b, b = w.heap.size := ⟨_, rfl⟩
  have ABz1 : Hid (w.heap.size ≤ z1) := by rw [ez1]; exact AB.out
  clear AB
  rw [← ez1] at A0  ⊢
  clear ez1
  have Hz1 := A0
  clear A0
  replace hM := L0
  clear L0
  replace hV := L1
  clear L1
  replace hE := AE
  clear AE
  have A0 := hideit (row1_new x2 (.int .i64 (n)) 3)
  have XB : Ext x2 (x2.alloc (.cells #[.int .i64 (n)] 3)) := (Below.refl _ _).alloc (Nat.le_refl _) _
  have A1 := hideit (Hz1.out.carry XB)
  have L0 := hideit (hM.out.ext XB)
  have L1 := hideit (hV.out.ext XB)
  have AE := hideit (Ext.trans hE.out (XB))
  have AB := hideit (hE.out.size)
  have D0 : Hid (z1 ≠ x2.heap.size) := Nat.ne_of_lt Hz1.out.2.2
  clear XB
  refine wpList_to rfl (.pointer (some ⟨x2.heap.size, 0, none⟩)) (x2.alloc (.cells #[.int .i64 (n)] 3)) (by simp [go_sem]) ?_
  simp only [Act.put, List.setIfInBounds_toArray, List.set_cons_zero, List.set_cons_succ]
  generalize x2.alloc (.cells #[.int .i64 (n)] 3) = x4 at A0 A1 L0 L1 AE ⊢
  obtain ⟨z3, ez3⟩ : ∃ b, b = x2.heap.size := ⟨_, rfl⟩
  have ABz3 : Hid (w.heap.size ≤ z3) := by rw [ez3]; exact AB.out
  clear AB
  rw [← ez3] at A0 D0 ⊢
  clear ez3
  have Hz3 := A0
  clear A0
  replace Hz1 := A1
  clear A1
  replace hM := L0
  clear L0
  replace hV := L1
  clear L1
  replace hE := AE
  clear AE
  have Dz3_0 := D0
  clear D0
  have A0 := hideit (row1_new x4 (.slice o l k) 22)
  have XB : Ext x4 (x4.alloc (.cells #[.slice o l k] 22)) := (Below.refl _ _).alloc (Nat.le_refl _) _
  have A1 := hideit (Hz1.out.carry XB)
  have A2 := hideit (Hz3.out.carry XB)
  have L0 := hideit (hM.out.ext XB)
  have L1 := hideit (hV.out.ext XB)
  have AE := hideit (Ext.trans hE.out (XB))
  have AB := hideit (hE.out.size)
  have D0 : Hid (z1 ≠ x4.heap.size) := Nat.ne_of_lt Hz1.out.2.2
  have D1 : Hid (z3 ≠ x4.heap.size) := Nat.ne_of_lt Hz3.out.2.2
  clear XB
  refine wpList_to rfl (.pointer (some ⟨x4.heap.size, 0, none⟩)) (x4.alloc (.cells #[.slice o l k] 22)) (by simp [go_sem]) ?_
  simp only [Act.put, List.setIfInBounds_toArray, List.set_cons_zero, List.set_cons_succ]
  generalize x4.alloc (.cells #[.slice o l k] 22) = x6 at A0 A1 A2 L0 L1 AE ⊢
  obtain ⟨z5, ez5⟩ : ∃ b, b = x4.heap.size := ⟨_, rfl⟩
  have ABz5 : Hid (w.heap.size ≤ z5) := by rw [ez5]; exact AB.out
  clear AB
  rw [← ez5] at A0 D0 D1 ⊢
  clear ez5
  have Hz5 := A0
  clear A0
  replace Hz1 := A1
  clear A1
  replace Hz3 := A2
  clear A2
  replace hM := L0
  clear L0
  replace hV := L1
  clear L1
  replace hE := AE
  clear AE
  have Dz5_0 := D0
  clear D0
  have Dz5_1 := D1
  clear D1
  refine xm [some (.int .i64 0)] (by kernel_rfl) (by simp [xr, go_sem]) ?_
  simp only [xw, p0, p1, p2, p3]
  go_upto_region 1 with (fail)
  refine wp_region_lit ?_
  have m7 : x6.cell? ⟨z1, 0, none⟩ = some (.pointer (some ⟨p, 0, none⟩)) := Hz1.out.1 0 (by decide)
  refine xm [some (.pointer (some ⟨p, 0, none⟩)), some (.func (.func 34) #[] #[.pointer (some ⟨z1, 0, none⟩), .pointer (some ⟨z3, 0, none⟩)]), some (.func (.func 35) #[] #[.pointer (some ⟨z5, 0, none⟩)]), some (.func (.func 37) #[] #[.pointer (some ⟨z5, 0, none⟩), .pointer (some ⟨z1, 0, none⟩), .pointer (some ⟨z3, 0, none⟩)]), some (.pointer (some ⟨p, 0, none⟩)), some (.func (.func 38) #[.pointer (some ⟨p, 0, none⟩)] #[])] (by kernel_rfl) (by simp [xr, go_sem, m7]) ?_
  simp only [xw, p0, p1, p2, p3]
  clear m7
  have A0 := hideit (RowAt.newOf x6 4 (fnV (fun i => [34, 35, 37, 38].getD i 0) (fun i => [#[], #[], #[], #[.pointer (some ⟨p, 0, none⟩)]].getD i #[]) (fun i => [#[.pointer (some ⟨z1, 0, none⟩), .pointer (some ⟨z3, 0, none⟩)], #[.pointer (some ⟨z5, 0, none⟩)], #[.pointer (some ⟨z5, 0, none⟩), .pointer (some ⟨z1, 0, none⟩), .pointer (some ⟨z3, 0, none⟩)], #[]].getD i #[])) 47 #[.func (.func 34) #[] #[.pointer (some ⟨z1, 0, none⟩), .pointer (some ⟨z3, 0, none⟩)], .func (.func 35) #[] #[.pointer (some ⟨z5, 0, none⟩)], .func (.func 37) #[] #[.pointer (some ⟨z5, 0, none⟩), .pointer (some ⟨z1, 0, none⟩), .pointer (some ⟨z3, 0, none⟩)], .func (.func 38) #[.pointer (some ⟨p, 0, none⟩)] #[]] (fun j hj => by rcases (by omega : j = 0 ∨ j = 1 ∨ j = 2 ∨ j = 3) with rfl | rfl | rfl | rfl <;> rfl))
  have XB : Ext x6 (x6.alloc (.cells #[.func (.func 34) #[] #[.pointer (some ⟨z1, 0, none⟩), .pointer (some ⟨z3, 0, none⟩)], .func (.func 35) #[] #[.pointer (some ⟨z5, 0, none⟩)], .func (.func 37) #[] #[.pointer (some ⟨z5, 0, none⟩), .pointer (some ⟨z1, 0, none⟩), .pointer (some ⟨z3, 0, none⟩)], .func (.func 38) #[.pointer (some ⟨p, 0, none⟩)] #[]] 47)) := (Below.refl _ _).alloc (Nat.le_refl _) _
  have A1 := hideit (Hz1.out.carry XB)
  have A2 := hideit (Hz3.out.carry XB)
  have A3 := hideit (Hz5.out.carry XB)
  have L0 := hideit (hM.out.ext XB)
  have L1 := hideit (hV.out.ext XB)
  have AE := hideit (Ext.trans hE.out (XB))
  have AB := hideit (hE.out.size)
  have D0 : Hid (z1 ≠ x6.heap.size) := Nat.ne_of_lt Hz1.out.2.2
  have D1 : Hid (z3 ≠ x6.heap.size) := Nat.ne_of_lt Hz3.out.2.2
  have D2 : Hid (z5 ≠ x6.heap.size) := Nat.ne_of_lt Hz5.out.2.2
  clear XB
  refine wpList_to rfl (.slice (some ⟨x6.heap.size, 0, none⟩) 4 4) (x6.alloc (.cells #[.func (.func 34) #[] #[.pointer (some ⟨z1, 0, none⟩), .pointer (some ⟨z3, 0, none⟩)], .func (.func 35) #[] #[.pointer (some ⟨z5, 0, none⟩)], .func (.func 37) #[] #[.pointer (some ⟨z5, 0, none⟩), .pointer (some ⟨z1, 0, none⟩), .pointer (some ⟨z3, 0, none⟩)], .func (.func 38) #[.pointer (some ⟨p, 0, none⟩)] #[]] 47)) (by simp [go_sem]) ?_
  simp only [Act.put, List.setIfInBounds_toArray, List.set_cons_zero, List.set_cons_succ]
  generalize x6.alloc (.cells #[.func (.func 34) #[] #[.pointer (some ⟨z1, 0, none⟩), .pointer (some ⟨z3, 0, none⟩)], .func (.func 35) #[] #[.pointer (some ⟨z5, 0, none⟩)], .func (.func 37) #[] #[.pointer (some ⟨z5, 0, none⟩), .pointer (some ⟨z1, 0, none⟩), .pointer (some ⟨z3, 0, none⟩)], .func (.func 38) #[.pointer (some ⟨p, 0, none⟩)] #[]] 47) = x10 at A0 A1 A2 A3 L0 L1 AE ⊢
  obtain ⟨z9, ez9⟩ : ∃ b, b = x6.heap.size := ⟨_, rfl⟩
  have ABz9 : Hid (w.heap.size ≤ z9) := by rw [ez9]; exact AB.out
  clear AB
  rw [← ez9] at A0 D0 D1 D2 ⊢
  clear ez9
  have Hz9 := A0
  clear A0
  replace Hz1 := A1
  clear A1
  replace Hz3 := A2
  clear A2
  replace Hz5 := A3
  clear A3
  replace hM := L0
  clear L0
  replace hV := L1
  clear L1
  replace hE := AE
  clear AE
  have Dz9_0 := D0
  clear D0
  have Dz9_1 := D1
  clear D1
  have Dz9_2 := D2
  clear D2
  have nF : ¬ F z9 := fun e => by have := hlt.out z9 e; have := ABz9.out; omega
  have kd := hideit (write_doP h S P ep r sl hM.out z1 z3 z5 z9 n o l k f Hz1.out Hz3.out Hz5.out hV.out Hz9.out nF hok.out hC.out E s' hEs.out)
  refine wpList_call rfl (by simp [go_sem]) ((kd.out).mono ?_)
  rintro e y9 ⟨rfl, hM9, hK9⟩
  refine ⟨_, rfl, ?_⟩
  simp only [Act.put, List.setIfInBounds_toArray, List.set_cons_zero, List.set_cons_succ]
  replace hM9 := hideit hM9
  replace hK9 := hideit ((Keeps.of_ext hE.out).trans hK9 fun i hi => .inl hi)
  clear kd hM nF
  refine xm [some (.int .i64 (E))] (by kernel_rfl) (by simp [xr, go_sem]) ?_
  simp only [xw, p0, p1, p2, p3]
  go_wp2
  go_ret
  exact ⟨rfl, hM9.out, hK9.out⟩
set_option maxRecDepth 20000 in
set_option maxHeartbeats 4000000 in
theorem block_zero (o : Option Addr) (l k : Nat) (f : Nat → BitVec 8) (w : World) (hl : l = 0) : Calls Try.prog 21 #[.slice o l k] w fun e w' => ∃ z, e = .returned (.slice (some ⟨z, 0, none⟩) 512 512) ∧ w.heap.size ≤ z ∧ RowAt z 512 (yv (blkF l f)) w' ∧ Ext w w' := by
  replace hl := hideit hl
  have hE := hideit (Ext.refl w)
  go_enter Try.func21, Try.ntmps21
  go_upto_region 1 with (fail)
  refine wp_region_lit ?_
  refine wpList_made w Try.underlying22 (by kernel_rfl) rfl _ _ rfl 512 rfl rfl (by decide) ?_
  intro x1 hO1 hX1
  have Hz := hideit ((own_row512 hO1).congr (g' := yv (blkP l f 0)) fun j hj => by unfold yv blkP; rw [if_neg (by omega)])
  replace hE := hideit (Ext.trans hE.out hX1)
  simp only [Act.put, List.setIfInBounds_toArray, List.set_cons_zero, List.set_cons_succ]
  clear hO1 hX1
  obtain ⟨z, ez⟩ : ∃ b, b = w.heap.size := ⟨_, rfl⟩
  have ABz : Hid (w.heap.size ≤ z) := by rw [ez]; exact Nat.le_refl _
  rw [← ez] at Hz ⊢
  clear ez
  refine xm [some (.slice (some ⟨z, 0, none⟩) 512 512)] (by kernel_rfl) (by simp [xr, go_sem]) ?_
  simp only [xw, p0, p1, p2, p3]
  go_wp2
  go_loopw [4] (fun t X => t = .int .i64 0 ∧ RowAt z 512 (yv (blkP l f 0)) X ∧ Ext w X) (fun t _ => 0)
  case atStart => exact ⟨rfl, Hz.out, hE.out⟩
  case round =>
    obtain ⟨rfl, r0, rE⟩ := hrel
    clear Hz hE
    replace rE := hideit rE
    have r9 := hideit (r0.congr (g' := yv (blkF l f)) fun j hj => by have := hl.out; unfold yv blkP blkF; rw [if_pos this]; split <;> rfl)
    have hl0 : Hid (¬ 0 < l) := by have := hl.out; show ¬ 0 < l; omega
    clear r0 hl
    go_upto_region 3 with (fail)
    refine wp_region_lit ?_
    refine xm [some (.int .i64 (0)), some (.bool true), some (.bool true), some (.slice o l k), some (.int .i64 (l : Int)), some (.bool false), some (.bool false)] (by kernel_rfl) (by simp [xr, go_sem, hl0.out]) ?_
    simp only [xw, p0, p1, p2, p3]
    go_upto_region 6 with (fail)
    refine wp_region_lit ?_
    refine xm [some (.slice (some ⟨z, 0, none⟩) 512 512), some (.slice (some ⟨z, 0, none⟩) 512 512)] (by kernel_rfl) (by simp [xr, go_sem]) ?_
    simp only [xw, p0, p1, p2, p3]
    go_wp2
    go_ret
    exact ⟨z, rfl, ABz.out, r9.out, rE.out⟩
theorem block_pv (o : Option Addr) (l k : Nat) (f : Nat → BitVec 8) (w : World) (hV : PV (.slice o l k) l f w) (hl : l ≤ 140737488355328) : Calls Try.prog 21 #[.slice o l k] w fun e w' => ∃ z, e = .returned (.slice (some ⟨z, 0, none⟩) 512 512) ∧ w.heap.size ≤ z ∧ RowAt z 512 (yv (blkF l f)) w' ∧ Ext w w' := by
  by_cases h0 : l = 0
  · exact block_zero o l k f w h0
  · exact block_any o l k f w (hV.bv (by omega)) hl
end Go.Proofs.Ytcipkfalnjgghaa
namespace Go.Proofs.Ytcipkfalnjgghaa
open Go.RowKit Go.BigFrame Go.Maps
set_option linter.unusedVariables false
open Go.ChangeShapes Go.WideShapes Go.ChangeAt
/-- the first four cells of an Op that lies at ab, ao -/
def OpL (ab ao : Nat) (k m : Int) (u1 u2 q : Value) (W : World) : Prop := W.cell? ⟨ab, ao, none⟩ = some (.int .i64 k) ∧ W.cell? ⟨ab, ao + 1, none⟩ = some (.int .i64 m) ∧ W.cell? ⟨ab, ao + 2, none⟩ = some u1 ∧ W.cell? ⟨ab, ao + 3, none⟩ = some u2 ∧ W.cell? ⟨ab, ao + 4, none⟩ = some q
theorem OpL.ext {ab ao : Nat} {k m : Int} {u1 u2 q : Value} {W X : World} (h : OpL ab ao k m u1 u2 q W) (e : Ext W X) : OpL ab ao k m u1 u2 q X := ⟨cell_ext e h.1, cell_ext e h.2.1, cell_ext e h.2.2.1, cell_ext e h.2.2.2.1, cell_ext e h.2.2.2.2⟩
/-- bytes that came in -/
def PB (v : Value) (W : World) : Prop := ∃ l b, PV v l b W ∧ l ≤ maxLen
theorem PB.ext {v : Value} {W X : World} (h : PB v W) (e : Ext W X) : PB v X := by
  obtain ⟨l, b, h1, h2⟩ := h
  exact ⟨l, b, h1.ext e, h2⟩
/-- Ops that came in -/
def OpsA (o : Option Addr) (n : Nat) (W : World) : Prop := ∀ i, i < n → ∃ (ab ao : Nat) (k m : Int) (u1 u2 q : Value), o = some ⟨ab, ao, none⟩ ∧ OpL ab (ao + i * 5) k m u1 u2 q W ∧ okI k ∧ okI m ∧ PB u1 W ∧ PB u2 W
theorem OpsA.ext {o : Option Addr} {n : Nat} {W X : World} (h : OpsA o n W) (e : Ext W X) : OpsA o n X := fun i hi => by
  obtain ⟨ab, ao, k, m, u1, u2, q, h1, h2, h3, h4, h5, h6⟩ := h i hi
  exact ⟨ab, ao, k, m, u1, u2, q, h1, h2.ext e, h3, h4, h5.ext e, h6.ext e⟩
set_option maxRecDepth 100000 in
theorem opsarg {H : Type} {enc : TypeId × Value → H} {W : World} {r : Reach} {b0 base : Nat} {spare : Nat → Bool} {held : Bool} {v : Value} {d : DataW H} {p : List MemPlace}
    (hv : Value.okWide Try.prog W r b0 53 v) (h : DataW.Trod enc Try.prog W base spare held 53 v d p) : ∃ o n cap, v = .slice o n cap ∧ n ≤ maxLen ∧ OpsA o n W := by
  obtain ⟨a, len, cap, rfl⟩ := okWide_slice Try.underlying53 hv
  obtain ⟨fuel, hf⟩ := h
  have hC : Try.prog.cellsOf 25 = 5 := by kernel_rfl
  rcases Go.Deep.open_slice Try.underlying53 hf with ⟨hcs, _⟩ | ⟨x, l, c, m, n, D, Pl, hcs, _, hl, hm, hmm, _, hx⟩
  · simp [Value.cells] at hcs
    obtain ⟨rfl, rfl, rfl⟩ := hcs
    exact ⟨none, 0, 0, rfl, Nat.zero_le _, fun i hi => by omega⟩
  · simp [Value.cells] at hcs
    obtain ⟨rfl, rfl, rfl⟩ := hcs
    have hsp : x.spot = none := by
      simp only [Value.okWide, Try.underlying53, Cell.okWide, Cell.ok] at hv
      exact hv.2.2.2.1
    have hadd : ∀ i, x.add i = ⟨x.block, x.off + i, none⟩ := fun i => by
      obtain ⟨xb, xo, xs⟩ := x
      cases hsp
      unfold Addr.add
      by_cases hi : i = 0
      · subst hi; simp
      · rw [if_neg hi]
    have hxe : x = ⟨x.block, x.off, none⟩ := by
      obtain ⟨xb, xo, xs⟩ := x
      cases hsp
      rfl
    have hlm : len ≤ m := by rw [hmm]; split <;> omega
    refine ⟨some x, len, cap, rfl, by omega, fun i hi => ?_⟩
    obtain ⟨cs', h1, h2⟩ := hx i (by omega)
    rw [hC] at h1
    obtain ⟨_, hlen, hcell⟩ := World.cells?_some h1
    obtain ⟨k, m', u1, u2, ko, kl, kc, rfl, a1, a2, a3, a4⟩ := op_cells h2
    have cl : ∀ j (hj : j < 5), W.cell? ⟨x.block, x.off + i * 5 + j, none⟩ = some ([Value.int .i64 k, .int .i64 m', u1, u2, .slice ko kl kc][j]) := fun j hj => by
      have e := hcell j (by simpa using hj)
      rw [add_add, hadd, ← Nat.add_assoc] at e
      rw [e]
      simp
    exact ⟨x.block, x.off, k, m', u1, u2, .slice ko kl kc, by rw [← hxe], ⟨cl 0 (by decide), cl 1 (by decide), cl 2 (by decide), cl 3 (by decide), cl 4 (by decide)⟩, a1, a2, a3, a4⟩
set_option maxRecDepth 100000 in
theorem open_opP {H : Type} {enc : TypeId × Value → H} {W : World} {r : Reach} {b0 base : Nat} {spare : Nat → Bool} {held : Bool} {v : Value} {d : DataW H} {p : List MemPlace}
    (hv : Value.okWide Try.prog W r b0 25 v) (h : DataW.Trod enc Try.prog W base spare held 25 v d p) : ∃ (k m : Int) (o1 : Option Addr) (l1 c1 : Nat) (o2 : Option Addr) (l2 c2 : Nat) (ko : Option Addr) (kl kc : Nat), v = .agg #[.int .i64 k, .int .i64 m, .slice o1 l1 c1, .slice o2 l2 c2, .slice ko kl kc] ∧ okI k ∧ okI m ∧ PB (.slice o1 l1 c1) W ∧ PB (.slice o2 l2 c2) W := by
  obtain ⟨cs, rfl, _, _⟩ := okWide_st Try.underlying25 hv
  obtain ⟨fuel, hf⟩ := h
  obtain ⟨k, m, u1, u2, ko, kl, kc, hc, i1, i2, ⟨l, b, hp, hl⟩, ⟨l', b', hp', hl'⟩⟩ := op_cells hf
  obtain ⟨o1, c1, rfl⟩ := hp.form
  obtain ⟨o2, c2, rfl⟩ := hp'.form
  refine ⟨k, m, o1, l, c1, o2, l', c2, ko, kl, kc, ?_, i1, i2, ⟨l, b, hp, hl⟩, ⟨l', b', hp', hl'⟩⟩
  congr 1
  apply Array.ext'
  exact hc
/-- what ModelKeeps asks of a model, step by step -/
structure StOk (s : MSt) (i : Nat) : Prop where
  op : s.op = true
  rt : okR s.h s.r
  ct : s.r.ct.toNat ≤ i
theorem ct_add (a : BitVec 64) (i : Nat) (h : a.toNat ≤ i) (hi : i < 1000) : (a + 1#64).toNat = a.toNat + 1 := by
  rw [BitVec.toNat_add, show (1#64).toNat = 1 from rfl, Nat.mod_eq_of_lt (by omega)]
theorem StOk.up {s : MSt} {i : Nat} (h : StOk s i) : StOk s (i + 1) := ⟨h.op, h.rt, Nat.le_succ_of_le h.ct⟩
theorem StOk.wr {s : MSt} {i : Nat} (h : StOk s i) (hi : i < 1000) (n : Int) (f : Nat → BitVec 8) : StOk (wrS s n f) (i + 1) := ⟨h.op, h.rt, by
  show (s.r.ct + 1#64).toNat ≤ i + 1
  rw [ct_add _ i h.ct hi]; have := h.ct; omega⟩
theorem StOk.ad {s : MSt} {i : Nat} (h : StOk s i) (hi : i < 1000) (n : Int) (l : Nat) (f : Nat → BitVec 8) : StOk (adS s n l f) (i + 1) := ⟨h.op, h.rt, by
  show (s.r.ct + 1#64).toNat ≤ i + 1
  rw [ct_add _ i h.ct hi]; have := h.ct; omega⟩
theorem StOk.rv {s : MSt} {i : Nat} (h : StOk s i) (hi : i < 1000) (n : Int) : StOk (rvS s n) (i + 1) := ⟨h.op, h.rt, by
  show (s.r.ct + 1#64).toNat ≤ i + 1
  rw [ct_add _ i h.ct hi]; have := h.ct; omega⟩
theorem StOk.st {s : MSt} {i : Nat} (h : StOk s i) (hi : i < 1000) : StOk (stS s) (i + 1) := ⟨h.op, ⟨h.rt.1, h.rt.2.1, h.rt.2.2.1, .inl rfl⟩, by
  show (s.r.ct + 1#64).toNat ≤ i + 1
  rw [ct_add _ i h.ct hi]; have := h.ct; omega⟩
end Go.Proofs.Ytcipkfalnjgghaa
namespace Go.Proofs.Ytcipkfalnjgghaa
open Go.RowKit Go.BigFrame Go.Maps
set_option linter.unusedVariables false
theorem wrL_mono (s s' : MSt) (hh : s'.h = s.h) (hS : ∀ x, (s.S x).isSome = true → (s'.S x).isSome = true) : (wrL s).length ≤ (wrL s').length := by
  unfold wrL
  rw [hh]
  simp only [List.length_map, ← List.countP_eq_length_filter]
  first
  | exact List.countP_mono_left fun x _ hx => hS _ hx
  | (simp only [List.countP_map]; exact List.countP_mono_left fun x _ hx => hS _ hx)
/-- behind a call that told c -/
structure Stp (s s' : MSt) (i : Nat) (c : Int) : Prop where
  ok : StOk s' (i + 2)
  no : c ≠ 0 → s' = s
  ct : c = 0 → s.r.ct.toNat ≤ s'.r.ct.toNat
  wr : c = 0 → (wrL s).length ≤ (wrL s').length
theorem Stp.refl {s : MSt} {i : Nat} (h : StOk s i) (c : Int) : Stp s s i c := ⟨h.up.up, fun _ => rfl, fun _ => Nat.le_refl _, fun _ => Nat.le_refl _⟩
theorem PB.pv {o : Option Addr} {l k : Nat} {w : World} (h : PB (.slice o l k) w) : ∃ b, PV (.slice o l k) l b w ∧ l ≤ maxLen := by
  obtain ⟨l', b, h1, h2⟩ := h
  have e : l' = l := by
    rcases h1 with ⟨h1, h3⟩ | ⟨a, cap, h1, _⟩
    · injection h1 with _ h1 _; omega
    · injection h1 with _ h1 _; exact h1.symm
  subst e
  exact ⟨b, h1, h2⟩
variable {F : Nat → Prop} {p C : Nat} {M : MLoc} {w : World}
theorem writeK (s : MSt) (hM : MdM F p s C M w) (i : Nat) (hS : StOk s i) (hi : i < 900) (n : Int) (o : Option Addr) (l k : Nat) (hV : PB (.slice o l k) w) (hok : okI n) (hC : C < maxLen) :
    Calls Try.prog 11 #[.pointer (some ⟨p, 0, none⟩), .int .i64 n, .slice o l k] w fun e w' => ∃ c s' M', e = .returned (.int .i64 c) ∧ Stp s s' i c ∧ MdM F p s' (C + 1) M' w' ∧ Keeps F w w' := by
  obtain ⟨f, hf, _⟩ := hV.pv
  obtain ⟨h, S, P, ep, r, op, sl⟩ := s
  obtain rfl : op = true := hS.op
  refine (write_openP h S P ep r sl hM n o l k f hf hok hC _ _ ⟨rfl, rfl⟩).mono fun e w' ⟨h1, h2, h3⟩ => ⟨_, _, M, h1, ?_, h2, h3⟩
  by_cases e0 : wrE ⟨h, S, P, ep, r, true, sl⟩ n l = 0
  · rw [if_pos e0]
    refine ⟨(hS.wr (by omega) n f).up, fun q => absurd e0 q, fun _ => ?_, fun _ => wrL_mono _ _ rfl fun x hx => ?_⟩
    · show r.ct.toNat ≤ (r.ct + 1#64).toNat
      have e9 := ct_add r.ct i hS.ct (by omega)
      omega
    · show (if x = n then some f else S x).isSome = true
      split
      · rfl
      · exact hx
  · rw [if_neg e0]
    exact Stp.refl hS _
theorem addK (s : MSt) (hM : MdM F p s C M w) (i : Nat) (hS : StOk s i) (hi : i < 900) (n : Int) (o : Option Addr) (l k : Nat) (hV : PB (.slice o l k) w) (hok : okI n) (hC : C < maxLen) :
    Calls Try.prog 13 #[.pointer (some ⟨p, 0, none⟩), .int .i64 n, .slice o l k] w fun e w' => ∃ c s' M', e = .returned (.int .i64 c) ∧ Stp s s' i c ∧ MdM F p s' (C + 1) M' w' ∧ Keeps F w w' := by
  obtain ⟨f, hf, _⟩ := hV.pv
  obtain ⟨h, S, P, ep, r, op, sl⟩ := s
  obtain rfl : op = true := hS.op
  refine (add_openP h S P ep r sl hM n o l k f hf hok hC _ _ ⟨rfl, rfl⟩).mono fun e w' ⟨h1, ⟨M', h2⟩, h3⟩ => ⟨_, _, M', h1, ?_, h2, h3⟩
  by_cases e0 : adE ⟨h, S, P, ep, r, true, sl⟩ n l = 0
  · rw [if_pos e0]
    refine ⟨(hS.ad (by omega) n l f).up, fun q => absurd e0 q, fun _ => ?_, fun _ => Nat.le_refl _⟩
    show r.ct.toNat ≤ (r.ct + 1#64).toNat
    have e9 := ct_add r.ct i hS.ct (by omega)
    omega
  · rw [if_neg e0]
    exact Stp.refl hS _
theorem revK (s : MSt) (hM : MdM F p s C M w) (i : Nat) (hS : StOk s i) (hi : i < 900) (n : Int) (hok : okI n) :
    Calls Try.prog 14 #[.pointer (some ⟨p, 0, none⟩), .int .i64 n] w fun e w' => ∃ c s' M', e = .returned (.int .i64 c) ∧ Stp s s' i c ∧ MdM F p s' (C + 1) M' w' ∧ Keeps F w w' := by
  obtain ⟨h, S, P, ep, r, op, sl⟩ := s
  obtain rfl : op = true := hS.op
  refine (rev_open h S P ep r sl hM n hok).mono fun e w' ⟨c, h1, s', h2, ⟨M', h3⟩, h4⟩ => ⟨c, s', M', h1, ?_, h3.mono (Nat.le_succ C), h4⟩
  rcases h2 with ⟨rfl, _, rfl⟩ | ⟨rfl, _, _, rfl⟩ | ⟨rfl, _, _, _, rfl⟩ | ⟨rfl, _, _, _, _, rfl⟩ | ⟨rfl, _, _, _, _, rfl⟩
  · exact Stp.refl hS _
  · exact Stp.refl hS _
  · exact Stp.refl hS _
  · exact Stp.refl hS _
  · refine ⟨(hS.rv (by omega) n).up, fun q => absurd rfl q, fun _ => ?_, fun _ => Nat.le_refl _⟩
    show r.ct.toNat ≤ (r.ct + 1#64).toNat
    have e9 := ct_add r.ct i hS.ct (by omega)
    omega
theorem startK (s : MSt) (hM : MdM F p s C M w) (i : Nat) (hS : StOk s i) (hi : i < 900) :
    Calls Try.prog 15 #[.pointer (some ⟨p, 0, none⟩)] w fun e w' => ∃ c s' M', e = .returned (.int .i64 c) ∧ Stp s s' i c ∧ MdM F p s' (C + 1) M' w' ∧ Keeps F w w' := by
  obtain ⟨h, S, P, ep, r, op, sl⟩ := s
  obtain rfl : op = true := hS.op
  refine (start_open h S P ep r sl hM).mono fun e w' ⟨c, h1, s', h2, h3, h4⟩ => ⟨c, s', M, h1, ?_, h3.mono (Nat.le_succ C), h4⟩
  rcases h2 with ⟨rfl, _, rfl⟩ | ⟨rfl, _, _, rfl⟩ | ⟨rfl, _, _, rfl⟩
  · exact Stp.refl hS _
  · exact Stp.refl hS _
  · refine ⟨(hS.st (by omega)).up, fun q => absurd rfl q, fun _ => ?_, fun _ => Nat.le_refl _⟩
    show r.ct.toNat ≤ (r.ct + 1#64).toNat
    have e9 := ct_add r.ct i hS.ct (by omega)
    omega
theorem stepK (s : MSt) (hM : MdM F p s C M w) (i : Nat) (hS : StOk s i) (hi : i < 900) :
    Calls Try.prog 6 #[.pointer (some ⟨p, 0, none⟩)] w fun e w' => ∃ d c s' M', e = .returned (.tuple #[.bool d, .int .i64 c]) ∧ Stp s s' i c ∧ MdM F p s' (C + 1) M' w' ∧ Keeps F w w' := by
  refine (step_open s hM hS.op hS.rt).mono fun e w' ⟨d, c, h1, s', h2, h3, h4⟩ => ⟨d, c, s', M, h1, ?_, h3.mono (Nat.le_succ C), h4⟩
  have e1 := ct_add s.r.ct i hS.ct (by omega)
  have e2 := ct_add (s.r.ct + 1#64) (i + 1) (by have := hS.ct; omega) (by omega)
  have hc := hS.ct
  rcases h2 with ⟨rfl, _, _, rfl⟩ | ⟨rfl, _, _, _, rfl⟩ | ⟨rfl, _, hrk, hlt, rfl⟩
  · exact Stp.refl hS _
  · exact ⟨⟨hS.op, ⟨hS.rt.1, Int.le_refl _, by have := hS.rt.1.1.2.1; show (0 : Int) ≤ s.h.se; omega, .inr rfl⟩, by show (s.r.ct + 1#64 + 1#64).toNat ≤ i + 2; omega⟩, fun q => absurd rfl q, fun _ => by show s.r.ct.toNat ≤ (s.r.ct + 1#64 + 1#64).toNat; omega, fun _ => Nat.le_refl _⟩
  · have hf := hS.rt.2.1
    have hf2 : s.r.fr ≤ nxT s.h s.r.fr ∨ 0 ≤ nxT s.h s.r.fr := by
      have a1 := hS.rt.1.1.2.1
      have a2 := hS.rt.1.1.2.2.2.2.1
      have a3 := hS.rt.2.2.1
      unfold nxT
      split <;> omega
    exact ⟨⟨hS.op, ⟨hS.rt.1, by show 0 ≤ nxT s.h s.r.fr; omega, nxT_le _ _, .inl rfl⟩, by show (s.r.ct + 1#64).toNat ≤ i + 2; omega⟩, fun q => absurd rfl q, fun _ => by show s.r.ct.toNat ≤ (s.r.ct + 1#64).toNat; omega, fun _ => Nat.le_refl _⟩
theorem same_infoS (s : MSt) (z1 z2 : Nat) (h1 : RowAt z1 s.h.sl.toNat (fun j => .bool (tkF s j)) w) (h2 : RowAt z2 s.h.sl.toNat (fun j => .bool (tkF s j)) w) (hk : okH s.h) :
    Calls Try.prog 9 #[.agg (row 29 (ifS s z1)).toArray, .agg (row 29 (ifS s z2)).toArray] w fun e w' => e = .returned (.bool true) ∧ Ext w w' :=
  same_info s.h s.sl s.ep (lfF s) s.r.ct (some ⟨z1, 0, none⟩) (some ⟨z2, 0, none⟩) s.h.sl.toNat s.h.sl.toNat s.h.sl.toNat (tkF s) w
    (.inr ⟨_, _, rfl, ⟨fun j hj => by rw [addr0]; exact h1.1 j hj, h1.2.2⟩⟩) (.inr ⟨_, _, rfl, ⟨fun j hj => by rw [addr0]; exact h2.1 j hj, h2.2.2⟩⟩) (by have := hk.1.2.2.1; omega)
theorem writtenL (s : MSt) (hM : MdM F p s C M w) : Calls Try.prog 17 #[.pointer (some ⟨p, 0, none⟩)] w fun e w' => ∃ o c, e = .returned (.slice o (wrL s).length c) ∧ LI (.slice o (wrL s).length c) (wrL s).length (fun j => (wrL s).getD j 0) w' ∧ Ext w w' := by
  refine (written_any s hM).mono fun e w' ⟨v, h1, h2, h3⟩ => ?_
  have hL := OwnB.li h2
  obtain ⟨o, c, rfl⟩ := hL.form
  exact ⟨o, c, h1, hL, h3⟩
theorem op_one9 {c : Int} {s' : MSt} (h : opE l0 s' 3 oneF c) : c = 0 ∧ StOk s' 0 := by
  obtain ⟨h1, rfl⟩ := op_one h
  exact ⟨h1, ⟨rfl, ⟨okH9, by decide, by decide, .inr rfl⟩, by decide⟩⟩
end Go.Proofs.Ytcipkfalnjgghaa
namespace Go.Proofs.Ytcipkfalnjgghaa
open Go.RowKit Go.BigFrame Go.Maps
set_option linter.unusedVariables false
set_option maxRecDepth 20000 in
set_option maxHeartbeats 4000000 in
theorem block_anyN (o : Option Addr) (l k : Nat) (f : Nat → BitVec 8) (w : World) (hV : BV (.slice o l k) l f w) : Calls Try.prog 21 #[.slice o l k] w fun e w' => ∃ z, e = .returned (.slice (some ⟨z, 0, none⟩) 512 512) ∧ w.heap.size ≤ z ∧ RowAt z 512 (yv (blkF l f)) w' ∧ Ext w w' := by
  have hno : Hid (∀ z, w.heap.size ≤ z → ∀ a, o = some a → a.block ≠ z) := fun z hz a e => by
    rcases hV with ⟨h, _⟩ | ⟨a', c, h, _, h3⟩
    · injection h with h; rw [e] at h; cases h
    · injection h with h; rw [e] at h; injection h with h; have := h3.2; rw [h]; omega
  replace hV := hideit hV
  have hE := hideit (Ext.refl w)
  go_enter Try.func21, Try.ntmps21
  go_upto_region 1 with (fail)
  refine wp_region_lit ?_
  refine wpList_made w Try.underlying22 (by kernel_rfl) rfl _ _ rfl 512 rfl rfl (by decide) ?_
  intro x1 hO1 hX1
  have Hz := hideit ((own_row512 hO1).congr (g' := yv (blkP l f 0)) fun j hj => by unfold yv blkP; rw [if_neg (by omega)])
  replace hV := hideit (hV.out.ext hX1)
  replace hE := hideit (Ext.trans hE.out hX1)
  simp only [Act.put, List.setIfInBounds_toArray, List.set_cons_zero, List.set_cons_succ]
  clear hO1 hX1
  obtain ⟨z, ez⟩ : ∃ b, b = w.heap.size := ⟨_, rfl⟩
  have ABz : Hid (w.heap.size ≤ z) := by rw [ez]; exact Nat.le_refl _
  rw [← ez] at Hz ⊢
  clear ez
  refine xm [some (.slice (some ⟨z, 0, none⟩) 512 512)] (by kernel_rfl) (by simp [xr, go_sem]) ?_
  simp only [xw, p0, p1, p2, p3]
  go_wp2
  go_loopw [4] (fun t X => ∃ i : Nat, i ≤ 512 ∧ t = .int .i64 (i : Int) ∧ RowAt z 512 (yv (blkP l f i)) X ∧ BV (.slice o l k) l f X ∧ Ext w X) (fun t _ => 512 - (intOf t).toNat)
  case atStart => exact ⟨0, by omega, rfl, Hz.out, hV.out, hE.out⟩
  case round =>
    obtain ⟨i, hi5, rfl, r0, rV, rE⟩ := hrel
    clear Hz hV hE
    replace r0 := hideit r0
    replace rV := hideit rV
    replace rE := hideit rE
    by_cases hi2 : (i : Int) < 512
    · have hi := hideit hi2
      have hin : Hid (i < 512) := by show i < 512; omega
      have ek : IntKind.i64.wrap ((i : Int) + 1) = ((i + 1 : Nat) : Int) := by rw [IntKind.wrap_i64]; omega
      have hge : Hid (¬ 512 ≤ (i : Int)) := by show ¬ 512 ≤ (i : Int); omega
      clear hi2 hi5
      by_cases hl1 : (l : Int) > 0
      · have hl := hideit hl1
        have hl0 : Hid (0 < l) := by show 0 < l; omega
        have hl2 : Hid (¬ l = 0) := by show ¬ l = 0; omega
        clear hl1
        obtain ⟨a, rfl⟩ : ∃ a, o = some a := by
          rcases rV.out with ⟨_, h0⟩ | ⟨a, c, h1, _⟩
          · have := hl0.out; omega
          · injection h1 with h1; exact ⟨a, h1⟩
        have haz : Hid (a.block ≠ z) := hno.out z ABz.out a rfl
        obtain ⟨m, hm⟩ : ∃ m : Nat, m = i % l := ⟨_, rfl⟩
        have hml : Hid (m < l) := by rw [hm]; exact Nat.mod_lt i hl0.out
        have hel : Hid (wr.cell? (a.add m) = some (.int .u8 ((f m).toNat : Int))) := rV.out.lie.1 m hml.out
        have hmod : Hid ((i : Int).tmod (l : Int) = (m : Int)) := by show (i : Int).tmod (l : Int) = _; rw [Int.tmod_eq_emod_of_nonneg (by omega), hm]; simp
        replace hm := hideit hm
        go_upto_region 3 with (fail)
        refine wp_region_lit ?_
        refine xm [some (.int .i64 (i : Int)), some (.bool true), some (.bool true), some (.slice (some a) l k), some (.int .i64 (l : Int)), some (.bool true), some (.bool true)] (by kernel_rfl) (by simp [xr, go_sem, hi.out, hl0.out]) ?_
        simp only [xw, p0, p1, p2, p3]
        go_upto_region 5 with (fail)
        refine wp_region_lit ?_
        refine xm [some (.slice (some ⟨z, 0, none⟩) 512 512), some (.int .i64 (i : Int)), some (.slice (some a) l k), some (.int .i64 (i : Int)), some (.slice (some a) l k), some (.int .i64 (l : Int)), some (.int .i64 (m : Int)), some (.pointer (some (a.add m))), some (.int .u8 ((f m).toNat : Int)), some (.pointer (some ⟨z, i, none⟩))] (by kernel_rfl) (by simp [xr, go_sem, hmod.out, hl2.out, hml.out, hel.out, hge.out, addr0]) ?_
        simp only [xw, p0, p1, p2, p3]
        have M0 : wr.cell? ⟨z, i, none⟩ = some (yv (blkP l f i) i) := r0.out.1 i hin.out
        have M1 : wr.frozen? ⟨z, i, none⟩ = false := r0.out.2.1 i hin.out
        have N0 := hideit ((r0.out.set i (.int .u8 ((f m).toNat : Int))).congr (g' := yv (blkP l f (i + 1))) (blk_next l f i m hm.out hl0.out))
        have NE := hideit (rE.out.setCell (p := ⟨z, i, none⟩) ABz.out (.int .u8 ((f m).toNat : Int)))
        have NV := hideit (rV.out.keep ((Keeps.refl (fun q => q = z) wr).setCell (p := ⟨z, i, none⟩) (.inl rfl) (.int .u8 ((f m).toNat : Int))) (fun a' n c e hz => haz.out (by injection e with e; injection e with e; rw [e]; exact hz)))
        refine xst rfl (wr.setCell ⟨z, i, none⟩ (.int .u8 ((f m).toNat : Int))) (by simp [go_sem, M0, M1]) ?_
        simp only [Act.put]
        generalize wr.setCell ⟨z, i, none⟩ (.int .u8 ((f m).toNat : Int)) = w9 at N0 NE NV ⊢
        clear M0 M1
        go_upto_region 4 with (fail)
        refine wp_region_lit ?_
        refine xm [some (.int .i64 (i : Int)), some (.int .i64 ((i + 1 : Nat) : Int)), some (.int .i64 ((i + 1 : Nat) : Int))] (by kernel_rfl) (by simp [xr, go_sem, ek]) ?_
        simp only [xw, p0, p1, p2, p3]
        go_wp2
        go_round
        case rel => exact ⟨i + 1, by have := hin.out; omega, rfl, N0.out, NV.out, NE.out⟩
        case measure => have := hin.out; simp [intOf]; omega
      · have hl := hideit hl1
        have hl0 : l = 0 := by omega
        have r9 := hideit (r0.out.congr (g' := yv (blkF l f)) fun j hj => by unfold yv blkP blkF; rw [if_pos hl0]; split <;> rfl)
        replace hl0 : Hid (¬ 0 < l) := by show ¬ 0 < l; omega
        clear hl1 r0 rV
        go_upto_region 3 with (fail)
        refine wp_region_lit ?_
        refine xm [some (.int .i64 (i : Int)), some (.bool true), some (.bool true), some (.slice o l k), some (.int .i64 (l : Int)), some (.bool false), some (.bool false)] (by kernel_rfl) (by simp [xr, go_sem, hi.out, hl0.out]) ?_
        simp only [xw, p0, p1, p2, p3]
        go_upto_region 6 with (fail)
        refine wp_region_lit ?_
        refine xm [some (.slice (some ⟨z, 0, none⟩) 512 512), some (.slice (some ⟨z, 0, none⟩) 512 512)] (by kernel_rfl) (by simp [xr, go_sem]) ?_
        simp only [xw, p0, p1, p2, p3]
        go_wp2
        go_ret
        exact ⟨z, rfl, ABz.out, r9.out, rE.out⟩
    · have hi := hideit hi2
      have hi6 : i = 512 := by omega
      have r9 := hideit (r0.out.congr (g' := yv (blkF l f)) fun j hj => by unfold yv blkP; rw [if_pos (by omega)])
      have hge : Hid (512 ≤ (i : Int)) := by show 512 ≤ (i : Int); omega
      clear hi2 hi5 r0 rV hi6
      go_upto_region 3 with (fail)
      refine wp_region_lit ?_
      refine xm [some (.int .i64 (i : Int)), some (.bool false), some (.bool false), none, none, none, some (.bool false)] (by kernel_rfl) (by simp [xr, go_sem, hge.out]) ?_
      simp only [xw, p0, p1, p2, p3]
      go_upto_region 6 with (fail)
      refine wp_region_lit ?_
      refine xm [some (.slice (some ⟨z, 0, none⟩) 512 512), some (.slice (some ⟨z, 0, none⟩) 512 512)] (by kernel_rfl) (by simp [xr, go_sem]) ?_
      simp only [xw, p0, p1, p2, p3]
      go_wp2
      go_ret
      exact ⟨z, rfl, ABz.out, r9.out, rE.out⟩
theorem block_pvN (o : Option Addr) (l k : Nat) (f : Nat → BitVec 8) (w : World) (hV : PV (.slice o l k) l f w) : Calls Try.prog 21 #[.slice o l k] w fun e w' => ∃ z, e = .returned (.slice (some ⟨z, 0, none⟩) 512 512) ∧ w.heap.size ≤ z ∧ RowAt z 512 (yv (blkF l f)) w' ∧ Ext w w' := by
  by_cases h0 : l = 0
  · exact block_zero o l k f w h0
  · exact block_anyN o l k f w (hV.bv (by omega))
theorem PB.block {o : Option Addr} {l k : Nat} {w : World} (h : PB (.slice o l k) w) : Calls Try.prog 21 #[.slice o l k] w fun e w' => ∃ z, e = .returned (.slice (some ⟨z, 0, none⟩) 512 512) ∧ PB (.slice (some ⟨z, 0, none⟩) 512 512) w' ∧ Ext w w' := by
  obtain ⟨f, hf, _⟩ := h.pv
  exact (block_pvN o l k f w hf).mono fun e w' ⟨z, h1, _, h2, h3⟩ => ⟨z, h1, ⟨512, _, h2.bv.pv, by unfold maxLen; omega⟩, h3⟩
theorem PB.form {v : Value} {w : World} (h : PB v w) : ∃ o l k, v = .slice o l k := by
  obtain ⟨l, b, h1, _⟩ := h
  obtain ⟨o, c, h2⟩ := h1.form
  exact ⟨o, l, c, h2⟩
theorem writtenN {F : Nat → Prop} {p C : Nat} {M : MLoc} {w : World} (s : MSt) (hM : MdM F p s C M w) (n : Nat) (hn : (wrL s).length = n) : Calls Try.prog 17 #[.pointer (some ⟨p, 0, none⟩)] w fun e w' => ∃ o c, e = .returned (.slice o n c) ∧ LI (.slice o n c) n (fun j => (wrL s).getD j 0) w' ∧ Ext w w' := by
  subst hn
  exact writtenL s hM
theorem wpList_toW {P : Program} {w : World} {ops : Array Oper} {rest : List Oper} {o : Oper} {a : Act} {Q : Exit → Act → World → Prop} (hw : Region.wanted o (yielded ops a.tmps) = true) (v : Value) (w' : World) (hr : (execOp a.eval o).run P w = .ok (.value v) w')
    (h : wpList P ops Q rest (a.put o.dst v) w') : wpList P ops Q (o :: rest) a w :=
  wpList_step fun K hK => by
    rw [if_pos hw]
    unfold Oper.wp
    rw [hr]
    simp only [Oper.upon]
    exact hK _ _ h
theorem xloadV {P : Program} {o : Oper} {a : Act} {w : World} (t : TypeId) (x : Operand) (ho : o.op = .load t x) (ad : Addr) (v : Value) (hx : a.eval x = .pointer (some ad)) (h : w.cell? ad = some v) (hg : ∀ w, (isAgg t).run P w = .ok false w) : (execOp a.eval o).run P w = .ok (.value v) w := by
  generalize a.eval = ρ at hx ⊢
  unfold execOp
  simp [ho, hx, Instr.loadAt, Instr.sureAddr, loadVar, hg, h, go_sem]
end Go.Proofs.Ytcipkfalnjgghaa
