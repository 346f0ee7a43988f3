/-
  A sector that is read.
-/
import Derived.Test.YtcipkfalnjgghaaMd6
namespace Go.Proofs.Ytcipkfalnjgghaa
open Go.RowKit Go.BigFrame Go.Maps
set_option linter.unusedVariables false
theorem zero61r (w : World) : (zeroValue 61).run Try.prog w = .ok (.agg (row 512 (yv fun _ => 0#8)).toArray) w := zero61 w
def zF (_ : Nat) : BitVec 8 := 0#8
/-- what sector n reads: its bytes, or zeros -/
def rdF (s : MSt) (n : Int) : Nat → BitVec 8 := (s.S n).getD fun _ => 0#8
def rdE (s : MSt) (n : Int) : Int := if 0 ≤ n ∧ n < s.h.se then 0 else 100
theorem lookS {F : Nat → Prop} {p C : Nat} {M : MLoc} {w : World} {s : MSt} (hM : MdM F p s C M w) {n : Int} (hok : okI n) : (Instr.lookup 62 (.map (some M.sb)) (.int .i64 n) false).run Try.prog w = .ok (.agg (row 512 (yv (rdF s n))).toArray) w := by
  rw [hM.mpS.look Try.underlying3 Try.underlying62 (zero61r _) hok]
  unfold rdF
  cases s.S n <;> rfl
theorem slice61 (z : Nat) (w : World) : (Instr.sliceAt 61 (.pointer (some ⟨z, 0, none⟩)) none none none).run Try.prog w = .ok (.slice (some ⟨z, 0, none⟩) 512 512) w := by
  have h1 : Try.prog.arrayLen 61 = 512 := by kernel_rfl
  have h2 : Try.prog.elem 61 = 5 := by kernel_rfl
  rw [run_sliceAt_array_all w 61 ⟨z, 0, none⟩ (by rw [h1, h2]; exact Try.underlying61), h1, h2]
  simp [Try.sizeOf5, slicedAt, Result.andThen, addr0]
set_option maxRecDepth 20000 in
set_option maxHeartbeats 4000000 in
theorem rd1_no {F : Nat → Prop} {p C : Nat} {M : MLoc} {w : World} (s : MSt) (hM : MdM F p s C M w) (bm bn : Nat) (n : Int) (hm : RowAt bm 1 (fun _ => .pointer (some ⟨p, 0, none⟩)) w) (hn : RowAt bn 1 (fun _ => .int .i64 n) w) (hr : ¬ (0 ≤ n ∧ n < s.h.se)) : Calls Try.prog 24 #[.pointer (some ⟨bm, 0, none⟩), .pointer (some ⟨bn, 0, none⟩)] w fun e w' => e = .returned (.tuple #[.slice none 0 0, .int .i64 100]) ∧ Ext w w' := by
  have hS := hM.st
  have hq := rsec_any s.h M.sb M.pb s.ep s.r s.op s.sl p n w hS
  rw [if_neg hr] at hq
  replace hS := hideit hS
  replace hm := hideit hm
  replace hn := hideit hn
  replace hq := hideit hq
  replace hM := hideit hM
  have hE := hideit (Ext.refl w)
  go_enter Try.func24, Try.ntmps24
  go_upto_region 1 with (fail)
  refine wp_region_lit ?_
  have m1 : w.cell? ⟨bm, 0, none⟩ = some (.pointer (some ⟨p, 0, none⟩)) := hm.out.1 0 (by decide)
  have m2 : w.cell? ⟨bn, 0, none⟩ = some (.int .i64 (n)) := hn.out.1 0 (by decide)
  refine xm [some (.pointer (some ⟨p, 0, none⟩)), some (.int .i64 (n))] (by kernel_rfl) (by simp [xr, go_sem, m1, m2]) ?_
  simp only [xw, p0, p1, p2, p3]
  clear m1
  clear m2
  refine wpList_call rfl (by simp [go_sem]) ((hq.out).mono ?_)
  rintro e yy ⟨rfl, hyy⟩
  refine ⟨_, rfl, ?_⟩
  simp only [Act.put, List.setIfInBounds_toArray, List.set_cons_zero, List.set_cons_succ]
  replace hyy := hyy.symm
  subst hyy
  refine xm [some (.int .i64 100)] (by kernel_rfl) (by simp [xr, go_sem]) ?_
  simp only [xw, p0, p1, p2, p3]
  go_upto_region 2 with (fail)
  refine wp_region_lit ?_
  refine xm [some (.int .i64 100), some (.bool true)] (by kernel_rfl) (by simp [xr, go_sem]) ?_
  simp only [xw, p0, p1, p2, p3]
  go_upto_region 3 with (fail)
  refine wp_region_lit ?_
  refine xm [some (.int .i64 100), some (.slice none 0 0), some (.int .i64 100)] (by kernel_rfl) (by simp [xr, go_sem]) ?_
  simp only [xw, p0, p1, p2, p3]
  go_wp2
  refine bodyPost_ret (res2 rfl _ _ _) rfl ?_
  exact ⟨rfl, hE.out⟩
set_option maxRecDepth 20000 in
set_option maxHeartbeats 4000000 in
theorem rd1_ok {F : Nat → Prop} {p C : Nat} {M : MLoc} {w : World} (s : MSt) (hM : MdM F p s C M w) (bm bn : Nat) (n : Int) (hm : RowAt bm 1 (fun _ => .pointer (some ⟨p, 0, none⟩)) w) (hn : RowAt bn 1 (fun _ => .int .i64 n) w) (hr : 0 ≤ n ∧ n < s.h.se) (hok : okI n) : Calls Try.prog 24 #[.pointer (some ⟨bm, 0, none⟩), .pointer (some ⟨bn, 0, none⟩)] w fun e w' => ∃ z, e = .returned (.tuple #[.slice (some ⟨z, 0, none⟩) 512 512, .int .i64 0]) ∧ w.heap.size ≤ z ∧ RowAt z 512 (yv (rdF s n)) w' ∧ Ext w w' := by
  have hS := hM.st
  have hq := rsec_any s.h M.sb M.pb s.ep s.r s.op s.sl p n w hS
  rw [if_pos hr] at hq
  replace hS := hideit hS
  replace hm := hideit hm
  replace hn := hideit hn
  replace hq := hideit hq
  replace hM := hideit hM
  replace hok := hideit hok
  have hE := hideit (Ext.refl w)
  go_enter Try.func24, Try.ntmps24
  go_upto_region 1 with (fail)
  refine wp_region_lit ?_
  have m1 : w.cell? ⟨bm, 0, none⟩ = some (.pointer (some ⟨p, 0, none⟩)) := hm.out.1 0 (by decide)
  have m2 : w.cell? ⟨bn, 0, none⟩ = some (.int .i64 (n)) := hn.out.1 0 (by decide)
  refine xm [some (.pointer (some ⟨p, 0, none⟩)), some (.int .i64 (n))] (by kernel_rfl) (by simp [xr, go_sem, m1, m2]) ?_
  simp only [xw, p0, p1, p2, p3]
  clear m1
  clear m2
  refine wpList_call rfl (by simp [go_sem]) ((hq.out).mono ?_)
  rintro e yy ⟨rfl, hyy⟩
  refine ⟨_, rfl, ?_⟩
  simp only [Act.put, List.setIfInBounds_toArray, List.set_cons_zero, List.set_cons_succ]
  replace hyy := hyy.symm
  subst hyy
  refine xm [some (.int .i64 0)] (by kernel_rfl) (by simp [xr, go_sem]) ?_
  simp only [xw, p0, p1, p2, p3]
  go_upto_region 2 with (fail)
  refine wp_region_lit ?_
  refine xm [some (.int .i64 0), some (.bool false)] (by kernel_rfl) (by simp [xr, go_sem]) ?_
  simp only [xw, p0, p1, p2, p3]
  clear hq
  go_upto_region 4 with (fail)
  replace hS := hideit hS.out.drew
  replace hm := hideit hm.out.drew
  replace hn := hideit hn.out.drew
  replace hM := hideit (hM.out.ext (Ext.draw (Ext.refl w)))
  replace hE := hideit (Ext.draw hE.out)
  refine wp_region_ladz (fun X => Ext w.drew X) [7] [(false, 0), (false, 1), (false, 2), (false, 3), (false, 4), (false, 5), (true, 6), (true, 7)] (by kernel_rfl) (by kernel_rfl) (by decide +kernel) (by decide +kernel) (by decide +kernel) (by decide +kernel) (Ext.refl _) ?_
  refine wpZ_f _ (.pointer (some ⟨p, 0, none⟩)) rfl rfl (fun X hX => by have m3 : X.cell? ⟨bm, 0, none⟩ = some (.pointer (some ⟨p, 0, none⟩)) := (hm.out.carry hX).1 0 (by decide); simp [go_sem, m3]) ?_
  simp only [List.getElem_toArray, List.getElem_cons_zero, Act.put, List.setIfInBounds_toArray, List.set_cons_zero, List.set_cons_succ]
  refine wpZ_f _ (.pointer (some ⟨p, 0, none⟩)) rfl rfl (fun X _ => by simp [go_sem]) ?_
  simp only [List.getElem_toArray, List.getElem_cons_zero, List.getElem_cons_succ, Act.put, List.setIfInBounds_toArray, List.set_cons_zero, List.set_cons_succ]
  refine wpZ_f _ (.pointer (some ⟨p, 24, none⟩)) rfl rfl (fun X _ => by simp [go_sem]) ?_
  simp only [List.getElem_toArray, List.getElem_cons_zero, List.getElem_cons_succ, Act.put, List.setIfInBounds_toArray, List.set_cons_zero, List.set_cons_succ]
  refine wpZ_f _ (.map (some M.sb)) rfl rfl (fun X hX => by have m4 : X.cell? ⟨p, 24, none⟩ = some (.map (some M.sb)) := (hS.out.carry hX).1 24 (by decide); simp [go_sem, m4]) ?_
  simp only [List.getElem_toArray, List.getElem_cons_zero, List.getElem_cons_succ, Act.put, List.setIfInBounds_toArray, List.set_cons_zero, List.set_cons_succ]
  refine wpZ_f _ (.int .i64 (n)) rfl rfl (fun X hX => by have m5 : X.cell? ⟨bn, 0, none⟩ = some (.int .i64 (n)) := (hn.out.carry hX).1 0 (by decide); simp [go_sem, m5]) ?_
  simp only [List.getElem_toArray, List.getElem_cons_zero, List.getElem_cons_succ, Act.put, List.setIfInBounds_toArray, List.set_cons_zero, List.set_cons_succ]
  refine wpZ_f _ (.agg (row 512 (yv (rdF s n))).toArray) rfl rfl (fun X hX => xlook (.tmp 15) (.tmp 16) rfl rfl rfl (lookS (hM.out.ext hX) hok.out)) ?_
  simp only [List.getElem_toArray, List.getElem_cons_zero, List.getElem_cons_succ, Act.put, List.setIfInBounds_toArray, List.set_cons_zero, List.set_cons_succ]
  refine wpZ_to _ (.pointer (some ⟨w.drew.heap.size, 0, none⟩)) (w.drew.alloc (.cells (row 512 (yv fun _ => 0#8)).toArray 61)) rfl rfl (xalloc 61 _ rfl (zero61r _)) (fun X => Ext (w.drew.alloc (.cells (row 512 (yv fun _ => 0#8)).toArray 61)) X) (.inr fun X hX => Ext.trans ((Below.refl _ _).alloc (Nat.le_refl _) _) hX) (Ext.refl _) ?_
  simp only [List.getElem_toArray, List.getElem_cons_zero, List.getElem_cons_succ, Act.put, List.setIfInBounds_toArray, List.set_cons_zero, List.set_cons_succ]
  have N0 := hideit ((RowAt.new w.drew 512 (yv fun _ => 0#8) 61).cells (g' := yv (rdF s n)))
  have XE : Ext w.drew ((w.drew.alloc (.cells (row 512 (yv fun _ => 0#8)).toArray 61)).setCells w.drew.heap.size 0 (row 512 (yv (rdF s n)))) := below_setCells w.drew.heap.size (Nat.le_refl _) _ 0 _ ((Below.refl _ _).alloc (Nat.le_refl _) _)
  have Dz_0 : Hid (p ≠ w.drew.heap.size) := Nat.ne_of_lt hS.out.2.2
  have Dz_1 : Hid (bm ≠ w.drew.heap.size) := Nat.ne_of_lt hm.out.2.2
  have Dz_2 : Hid (bn ≠ w.drew.heap.size) := Nat.ne_of_lt hn.out.2.2
  refine wpZ_st _ ((w.drew.alloc (.cells (row 512 (yv fun _ => 0#8)).toArray 61)).setCells w.drew.heap.size 0 (row 512 (yv (rdF s n)))) rfl rfl (xstore 61 (.tmp 5) (.tmp 17) rfl w.drew.heap.size 512 _ (yv (rdF s n)) rfl rfl (RowAt.new w.drew 512 (yv fun _ => 0#8) 61) infoB (fun _ _ => rfl)) (fun _ => True) (.inl (by simp)) trivial ?_
  simp only [List.getElem_toArray, List.getElem_cons_zero, List.getElem_cons_succ, Act.put]
  generalize (w.drew.alloc (.cells (row 512 (yv fun _ => 0#8)).toArray 61)).setCells w.drew.heap.size 0 (row 512 (yv (rdF s n))) = x6 at N0 XE ⊢
  obtain ⟨z, ez⟩ : ∃ b, b = w.drew.heap.size := ⟨_, rfl⟩
  have ABz : Hid (w.heap.size ≤ z) := by rw [ez]; exact hE.out.size
  rw [← ez] at N0 Dz_0 Dz_1 Dz_2 ⊢
  clear ez
  have Hz := N0
  clear N0
  replace hS := hideit (hS.out.carry XE)
  replace hm := hideit (hm.out.carry XE)
  replace hn := hideit (hn.out.carry XE)
  replace hM := hideit (hM.out.ext XE)
  replace hE := hideit (Ext.trans hE.out (XE))
  clear XE
  refine wpZ_nil ?_
  go_upto_region 5 with (fail)
  refine wp_region_lit ?_
  refine xm [some (.slice (some ⟨z, 0, none⟩) 512 512), some (.slice (some ⟨z, 0, none⟩) 512 512), some (.int .i64 0)] (by kernel_rfl) (by simp [xr, go_sem, slice61]) ?_
  simp only [xw, p0, p1, p2, p3]
  go_wp2
  refine bodyPost_ret (res2 rfl _ _ _) rfl ?_
  exact ⟨z, rfl, ABz.out, Hz.out, hE.out⟩
end Go.Proofs.Ytcipkfalnjgghaa
