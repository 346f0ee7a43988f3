/-
  Fork.
-/
import Derived.Test.YtcipkfalnjgghaaMd25
import Derived.Test.YtcipkfalnjgghaaMdS
import Derived.Test.YtcipkfalnjgghaaMd11
import Derived.Test.YtcipkfalnjgghaaMd22
namespace Go.Proofs.Ytcipkfalnjgghaa
open Go.RowKit Go.BigFrame Go.Maps
set_option linter.unusedVariables false
theorem md_one (h : Hd) (sb pb : Nat) (ep : Int) (r : Rt) (op : Bool) (sl : Int) (j : Nat) : (mdV h sb pb ep r op sl j).oneCell' = true := by
  unfold mdV
  by_cases h1 : j < 24
  · rw [if_pos h1]; exact hdv_one _ _
  · rw [if_neg h1]
    by_cases h2 : j = 24
    · rw [if_pos h2]; rfl
    · rw [if_neg h2]
      by_cases h3 : j = 25
      · rw [if_pos h3]; rfl
      · rw [if_neg h3]
        by_cases h4 : j = 26
        · rw [if_pos h4]; rfl
        · rw [if_neg h4]
          by_cases h5 : j < 62
          · rw [if_pos h5]; exact rtv_one _ _
          · rw [if_neg h5]
            by_cases h6 : j = 62
            · rw [if_pos h6]; rfl
            · rw [if_neg h6]; rfl
def zMV : Nat → Value := fun j => if j < 24 then hdv zH j else if j = 24 then .map none else if j = 25 then .map none else if j = 26 then .int .i64 0 else if j < 62 then rtv rt0 (j - 27) else if j = 62 then .bool false else .int .i64 0
theorem zero68 (w : World) : (zeroValue 68).run Try.prog w = .ok (.agg (row 64 zMV).toArray) w := by kernel_rfl
/-- a block that is not one of bytes -/
structure NBk (q : Nat) (W : World) : Prop where
  lt : q < W.heap.size
  nb : ¬ IsB q W
theorem NBk.keep {F : Nat → Prop} {q : Nat} {W Y : World} (h : NBk q W) (k : Keeps F W Y) : NBk q Y := ⟨Nat.lt_of_lt_of_le h.lt k.size, fun e => h.nb (k.bk q h.lt e)⟩
theorem NBk.ext {q : Nat} {W Y : World} (h : NBk q W) (k : Ext W Y) : NBk q Y := h.keep (F := fun _ => False) (Keeps.of_ext k)
theorem clone55 {b C : Nat} {m : Int → Option Value} {w : World} (h : MapAt Try.prog 3 b C m w) : Calls Try.prog 55 #[.map (some b)] w fun e w' => ∃ z, e = .returned (.map (some z)) ∧ w.heap.size ≤ z ∧ MapAt Try.prog 3 z C m w' ∧ Ext w w' := by
  obtain ⟨D, h1, h2⟩ := h
  have hcon := AnyW.maps_Clone_owns cloneA 3 RV b C D w h1
  change Calls Try.prog 55 _ _ _ at hcon
  exact hcon.mono fun e w' ⟨he, k1, _, hB⟩ => ⟨_, he, Nat.le_refl _, ⟨D, k1, h2⟩, hB⟩
theorem clone56 {b C : Nat} {m : Int → Option Value} {w : World} (h : MapAt Try.prog 3 b C m w) : Calls Try.prog 56 #[.map (some b)] w fun e w' => ∃ z, e = .returned (.map (some z)) ∧ w.heap.size ≤ z ∧ MapAt Try.prog 3 z C m w' ∧ Ext w w' := by
  obtain ⟨D, h1, h2⟩ := h
  have hcon := AnyW.maps_Clone_owns cloneB 3 RV b C D w h1
  change Calls Try.prog 56 _ _ _ at hcon
  exact hcon.mono fun e w' ⟨he, k1, _, hB⟩ => ⟨_, he, Nat.le_refl _, ⟨D, k1, h2⟩, hB⟩
set_option maxRecDepth 20000 in
set_option maxHeartbeats 4000000 in
theorem fork_any {F : Nat → Prop} {p C : Nat} {M : MLoc} {w : World} (s : MSt) (hM : MdM F p s C M w) : Calls Try.prog 18 #[.pointer (some ⟨p, 0, none⟩)] w fun e w' => ∃ (G : Nat → Prop) (q : Nat) (N : MLoc), e = .returned (.pointer (some ⟨q, 0, none⟩)) ∧ MdM G q s C N w' ∧ (∀ i, G i → w.heap.size ≤ i) ∧ Ext w w' := by
  have hS := hM.st
  have hM0 := hideit hM
  replace hS := hideit hS
  replace hM := hideit hM
  have hE := hideit (Ext.refl w)
  go_enter Try.func18, Try.ntmps18
  go_upto_region 1 with (fail)
  refine wp_region_lit ?_
  refine xm [some (.pointer (some ⟨p, 0, none⟩)), some (.bool false)] (by kernel_rfl) (by simp [xr, go_sem]) ?_
  simp only [xw, p0, p1, p2, p3]
  go_upto_region 3 with (fail)
  refine wp_region_lit ?_
  refine xm [some (.pointer (some ⟨p, 0, none⟩)), some (.pointer (some ⟨p, 0, none⟩))] (by kernel_rfl) (by simp [xr, go_sem]) ?_
  simp only [xw, p0, p1, p2, p3]
  refine wpList_run rfl (.agg (row 64 (mdV s.h M.sb M.pb s.ep s.r s.op s.sl)).toArray) (xload 68 (.tmp 7) rfl p 0 64 _ rfl hS.out.range Try.underlying68 rfl infoM) ?_
  simp only [Act.put, List.setIfInBounds_toArray, List.set_cons_zero, List.set_cons_succ]
  refine wpList_to rfl (.pointer (some ⟨w.heap.size, 0, none⟩)) (w.alloc (.cells (row 64 zMV).toArray 68)) (xalloc 68 _ rfl (zero68 _)) ?_
  simp only [Act.put, List.setIfInBounds_toArray, List.set_cons_zero, List.set_cons_succ]
  have N0 := hideit ((RowAt.new w 64 zMV 68).cells (g' := mdV s.h M.sb M.pb s.ep s.r s.op s.sl))
  have XE : Ext w ((w.alloc (.cells (row 64 zMV).toArray 68)).setCells w.heap.size 0 (row 64 (mdV s.h M.sb M.pb s.ep s.r s.op s.sl))) := below_setCells w.heap.size (Nat.le_refl _) _ 0 _ ((Below.refl _ _).alloc (Nat.le_refl _) _)
  have KB := hideit (show NBk w.heap.size ((w.alloc (.cells (row 64 zMV).toArray 68)).setCells w.heap.size 0 (row 64 (mdV s.h M.sb M.pb s.ep s.r s.op s.sl))) from NBk.keep (F := fun i => i = w.heap.size) ⟨(RowAt.new w 64 zMV 68).2.2, notB_new w (row 64 zMV).toArray 68 (by decide)⟩ (Keeps.cells (F := fun i => i = w.heap.size) w.heap.size (.inl rfl) (row 64 (mdV s.h M.sb M.pb s.ep s.r s.op s.sl)) 0 _ (Keeps.refl _ (w.alloc (.cells (row 64 zMV).toArray 68)))))
  have Dq := hideit (Nat.ne_of_lt hS.out.2.2)
  refine xst rfl ((w.alloc (.cells (row 64 zMV).toArray 68)).setCells w.heap.size 0 (row 64 (mdV s.h M.sb M.pb s.ep s.r s.op s.sl))) (xstore 68 (.tmp 3) (.tmp 8) rfl w.heap.size 64 _ (mdV s.h M.sb M.pb s.ep s.r s.op s.sl) rfl rfl (RowAt.new w 64 zMV 68) infoM (fun j _ => md_one _ _ _ _ _ _ _ j)) ?_
  simp only [Act.put]
  generalize (w.alloc (.cells (row 64 zMV).toArray 68)).setCells w.heap.size 0 (row 64 (mdV s.h M.sb M.pb s.ep s.r s.op s.sl)) = x1 at N0 XE KB ⊢
  obtain ⟨q, eq⟩ : ∃ b, b = w.heap.size := ⟨_, rfl⟩
  have ABq : Hid (w.heap.size ≤ q) := by rw [eq]; exact Nat.le_refl _
  rw [← eq] at N0 Dq KB ⊢
  clear eq
  have Hq := N0
  clear N0
  replace hS := hideit (hS.out.carry XE)
  replace hM := hideit (hM.out.ext XE)
  replace hE := hideit (Ext.trans hE.out XE)
  clear XE
  go_upto_region 4 with (fail)
  replace hS := hideit hS.out.drew
  replace Hq := hideit Hq.out.drew
  replace hM := hideit (hM.out.ext (Ext.draw (Ext.refl x1)))
  replace KB := hideit (KB.out.ext (Ext.draw (Ext.refl x1)))
  replace hE := hideit (Ext.draw hE.out)
  refine wp_region_ladz (fun X => Ext x1.drew X) [11, 13] [(false, 0), (false, 1), (false, 2), (false, 3), (false, 5), (false, 6), (false, 7), (false, 8), (true, 4), (true, 9), (false, 10), (true, 11), (false, 12), (true, 13)] (by kernel_rfl) (by kernel_rfl) (by decide +kernel) (by decide +kernel) (by decide +kernel) (by decide +kernel) (Ext.refl _) ?_
  refine wpZ_f _ (.pointer (some ⟨p, 0, none⟩)) rfl rfl (fun X _ => by simp [go_sem]) ?_
  simp only [List.getElem_toArray, List.getElem_cons_zero, Act.put, List.setIfInBounds_toArray, List.set_cons_zero, List.set_cons_succ]
  refine wpZ_f _ (.pointer (some ⟨p, 0, none⟩)) rfl rfl (fun X _ => by simp [go_sem]) ?_
  simp only [List.getElem_toArray, List.getElem_cons_zero, List.getElem_cons_succ, Act.put, List.setIfInBounds_toArray, List.set_cons_zero, List.set_cons_succ]
  refine wpZ_f _ (.pointer (some ⟨p, 24, none⟩)) rfl rfl (fun X _ => by simp [go_sem]) ?_
  simp only [List.getElem_toArray, List.getElem_cons_zero, List.getElem_cons_succ, Act.put, List.setIfInBounds_toArray, List.set_cons_zero, List.set_cons_succ]
  refine wpZ_f _ (.map (some M.sb)) rfl rfl (fun X hX => by have m1 : X.cell? ⟨p, 24, none⟩ = some (.map (some M.sb)) := (hS.out.carry hX).1 24 (by decide); simp [go_sem, m1]) ?_
  simp only [List.getElem_toArray, List.getElem_cons_zero, List.getElem_cons_succ, Act.put, List.setIfInBounds_toArray, List.set_cons_zero, List.set_cons_succ]
  refine wpZ_f _ (.pointer (some ⟨p, 0, none⟩)) rfl rfl (fun X _ => by simp [go_sem]) ?_
  simp only [List.getElem_toArray, List.getElem_cons_zero, List.getElem_cons_succ, Act.put, List.setIfInBounds_toArray, List.set_cons_zero, List.set_cons_succ]
  refine wpZ_f _ (.pointer (some ⟨p, 0, none⟩)) rfl rfl (fun X _ => by simp [go_sem]) ?_
  simp only [List.getElem_toArray, List.getElem_cons_zero, List.getElem_cons_succ, Act.put, List.setIfInBounds_toArray, List.set_cons_zero, List.set_cons_succ]
  refine wpZ_f _ (.pointer (some ⟨p, 25, none⟩)) rfl rfl (fun X _ => by simp [go_sem]) ?_
  simp only [List.getElem_toArray, List.getElem_cons_zero, List.getElem_cons_succ, Act.put, List.setIfInBounds_toArray, List.set_cons_zero, List.set_cons_succ]
  refine wpZ_f _ (.map (some M.pb)) rfl rfl (fun X hX => by have m2 : X.cell? ⟨p, 25, none⟩ = some (.map (some M.pb)) := (hS.out.carry hX).1 25 (by decide); simp [go_sem, m2]) ?_
  simp only [List.getElem_toArray, List.getElem_cons_zero, List.getElem_cons_succ, Act.put, List.setIfInBounds_toArray, List.set_cons_zero, List.set_cons_succ]
  have hql := hideit Hq.out.2.2
  have hBy := hideit (Below.size hE.out)
  refine wpZ_call _ rfl rfl (by simp [go_sem]) ((clone55 hM.out.mpS).mono ?_)
  rintro e yzs ⟨zs, rfl, hz1, hz2, hX5⟩
  refine ⟨_, rfl, fun X => Ext yzs X, .inr (fun X hX => Ext.trans hX5 hX), Ext.refl _, ?_⟩
  simp only [List.getElem_toArray, List.getElem_cons_zero, List.getElem_cons_succ, Act.put, List.setIfInBounds_toArray, List.set_cons_zero, List.set_cons_succ]
  replace hS := hideit (hS.out.carry hX5)
  replace Hq := hideit (Hq.out.carry hX5)
  replace hM := hideit (hM.out.ext hX5)
  replace KB := hideit (KB.out.ext hX5)
  replace hE := hideit (Ext.trans hE.out (hX5))
  have nqzs : Hid (q ≠ zs) := by have := hql.out; show q ≠ zs; omega
  replace hz1 : Hid (w.heap.size ≤ zs ∧ True) := ⟨by have := hBy.out; omega, trivial⟩
  have ABzs := hz1
  clear hz1 hql hBy hX5
  have hzs := hideit hz2
  clear hz2
  have hql := hideit Hq.out.2.2
  have hBy := hideit (Below.size hE.out)
  have hzl := hideit hzs.out.lt
  refine wpZ_call _ rfl rfl (by simp [go_sem]) ((clone56 hM.out.mpP).mono ?_)
  rintro e yzp ⟨zp, rfl, hz1, hz2, hX5⟩
  refine ⟨_, rfl, fun X => Ext yzp X, .inr (fun X hX => Ext.trans hX5 hX), Ext.refl _, ?_⟩
  simp only [List.getElem_toArray, List.getElem_cons_zero, List.getElem_cons_succ, Act.put, List.setIfInBounds_toArray, List.set_cons_zero, List.set_cons_succ]
  replace hS := hideit (hS.out.carry hX5)
  replace Hq := hideit (Hq.out.carry hX5)
  replace hM := hideit (hM.out.ext hX5)
  replace KB := hideit (KB.out.ext hX5)
  replace hzs := hideit (hzs.out.ext hX5)
  replace hE := hideit (Ext.trans hE.out (hX5))
  have nqzp : Hid (q ≠ zp) := by have := hql.out; show q ≠ zp; omega
  replace hz1 : Hid (w.heap.size ≤ zp ∧ zs ≠ zp) := ⟨by have := hBy.out; omega, by have := hzl.out; show zs ≠ zp; omega⟩
  have ABzp := hz1
  clear hz1 hql hBy hX5 hzl
  have hzp := hideit hz2
  clear hz2
  refine wpZ_f _ (.pointer (some ⟨q, 24, none⟩)) rfl rfl (fun X _ => by simp [go_sem]) ?_
  simp only [List.getElem_toArray, List.getElem_cons_zero, List.getElem_cons_succ, Act.put, List.setIfInBounds_toArray, List.set_cons_zero, List.set_cons_succ]
  have M0 : yzp.cell? ⟨q, 24, none⟩ = some (.map (some M.sb)) := Hq.out.1 24 (by decide)
  have M1 : yzp.frozen? ⟨q, 24, none⟩ = false := Hq.out.2.1 24 (by decide)
  have N0 := hideit (Hq.out.set 24 (.map (some zs)))
  have NE := hideit (hE.out.setCell (p := ⟨q, 24, none⟩) ABq.out (.map (some zs)))
  have NK := hideit ((Keeps.refl (fun i => i = q) yzp).setCell (p := ⟨q, 24, none⟩) (.inl rfl) (.map (some zs)))
  refine wpZ_st _ (yzp.setCell ⟨q, 24, none⟩ (.map (some zs))) rfl rfl (by simp [go_sem, M0, M1]) (fun _ => True) (.inl (by simp)) trivial ?_
  simp only [List.getElem_toArray, List.getElem_cons_zero, List.getElem_cons_succ, Act.put]
  generalize yzp.setCell ⟨q, 24, none⟩ (.map (some zs)) = u1 at N0 NE NK ⊢
  clear M0 M1
  replace Hq := N0
  replace hE := NE
  replace hzs := hideit (hzs.out.keep NK.out (Ne.symm nqzs.out))
  replace hzp := hideit (hzp.out.keep NK.out (Ne.symm nqzp.out))
  replace KB := hideit (KB.out.keep NK.out)
  clear N0 NE NK
  refine wpZ_f _ (.pointer (some ⟨q, 25, none⟩)) rfl rfl (fun X _ => by simp [go_sem]) ?_
  simp only [List.getElem_toArray, List.getElem_cons_zero, List.getElem_cons_succ, Act.put, List.setIfInBounds_toArray, List.set_cons_zero, List.set_cons_succ]
  have M0 : u1.cell? ⟨q, 25, none⟩ = some (.map (some M.pb)) := Hq.out.1 25 (by decide)
  have M1 : u1.frozen? ⟨q, 25, none⟩ = false := Hq.out.2.1 25 (by decide)
  have N0 := hideit (Hq.out.set 25 (.map (some zp)))
  have NE := hideit (hE.out.setCell (p := ⟨q, 25, none⟩) ABq.out (.map (some zp)))
  have NK := hideit ((Keeps.refl (fun i => i = q) u1).setCell (p := ⟨q, 25, none⟩) (.inl rfl) (.map (some zp)))
  refine wpZ_st _ (u1.setCell ⟨q, 25, none⟩ (.map (some zp))) rfl rfl (by simp [go_sem, M0, M1]) (fun _ => True) (.inl (by simp)) trivial ?_
  simp only [List.getElem_toArray, List.getElem_cons_zero, List.getElem_cons_succ, Act.put]
  generalize u1.setCell ⟨q, 25, none⟩ (.map (some zp)) = u2 at N0 NE NK ⊢
  clear M0 M1
  replace Hq := N0
  replace hE := NE
  replace hzs := hideit (hzs.out.keep NK.out (Ne.symm nqzs.out))
  replace hzp := hideit (hzp.out.keep NK.out (Ne.symm nqzp.out))
  replace KB := hideit (KB.out.keep NK.out)
  clear N0 NE NK
  refine wpZ_nil ?_
  go_upto_region 5 with (fail)
  refine wp_region_lit ?_
  refine xm [some (.pointer (some ⟨q, 0, none⟩))] (by kernel_rfl) (by simp [xr, go_sem]) ?_
  simp only [xw, p0, p1, p2, p3]
  go_wp2
  go_ret
  refine ⟨fun i => i = q ∨ i = zs ∨ i = zp, q, ⟨zs, zp, M.m⟩, rfl, ?_, fun i hi => ?_, hE.out⟩
  · have hM9 := hM0.out.ext hE.out
    exact {
      st := Hq.out.congr fun j _ => by
        show (if j = 25 then Value.map (some zp) else if j = 24 then Value.map (some zs) else mdV s.h M.sb M.pb s.ep s.r s.op s.sl j) = mdV s.h zs zp s.ep s.r s.op s.sl j
        unfold mdV
        by_cases e5 : j = 25
        · subst e5; rfl
        · rw [if_neg e5]
          by_cases e4 : j = 24
          · subst e4; rfl
          · rw [if_neg e4]
            by_cases h1 : j < 24
            · rw [if_pos h1, if_pos h1]
            · rw [if_neg h1, if_neg h1, if_neg e4, if_neg e4, if_neg e5, if_neg e5]
      okh := hM9.okh
      eps := hM9.eps
      mpS := hzs.out
      mpP := hzp.out
      hasP := hM9.hasP
      cont := hM9.cont
      kS := hM9.kS
      kP := hM9.kP
      fp := .inl rfl
      fs := .inr (.inl rfl)
      fm := .inr (.inr rfl)
      nb := fun i hi => by
        rcases hi with rfl | rfl | rfl
        · exact KB.out.nb
        · exact hzs.out.notB
        · exact hzp.out.notB
      lt := fun i hi => by
        rcases hi with rfl | rfl | rfl
        · exact KB.out.lt
        · exact hzs.out.lt
        · exact hzp.out.lt
      ps := nqzs.out
      pm := nqzp.out
      sm := ABzp.out.2 }
  · rcases hi with rfl | rfl | rfl
    · exact ABq.out
    · exact ABzs.out.1
    · exact ABzp.out.1
end Go.Proofs.Ytcipkfalnjgghaa
