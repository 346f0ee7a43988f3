/-
  SlotAdd.
-/
import Derived.Test.YtcipkfalnjgghaaMd6
import Derived.Test.YtcipkfalnjgghaaMd5
namespace Go.Proofs.Ytcipkfalnjgghaa
open Go.RowKit Go.BigFrame Go.Maps
set_option linter.unusedVariables false
theorem MdM.stepP {F G : Nat → Prop} {p C C' : Nat} {M : MLoc} {s : MSt} {W Y : World} (hM : MdM F p s C M W) (K : Keeps G W Y) (hG : ∀ i, G i → F i) (s' : MSt) (hh : s'.h = s.h) (hS : s'.S = s.S) (eps : 1 ≤ s'.ep ∧ s'.ep ≤ 4294967295) (m' : Int → Option Value) (st : RowAt p 64 (mdV s'.h M.sb M.pb s'.ep s'.r s'.op s'.sl) Y)
    (mpP : MapAt Try.prog 3 M.pb C' m' Y) (hC : C ≤ C') (hasP : ∀ x, (m' x).isSome = (s'.P x).isSome) (cont : ∀ x v, m' x = some v → ∃ l f, s'.P x = some (l, f) ∧ l ≤ 512 ∧ BB v l f Y) (kP : ∀ x, s'.P x ≠ none → 0 ≤ x ∧ x < s'.h.sl) (hsb : ¬ G M.sb) : MdM F p s' C' { M with m := m' } Y where
  st := st
  okh := by rw [hh]; exact hM.okh
  eps := eps
  mpS := by rw [hS]; exact (hM.mpS.keep K hsb).mono hC
  mpP := mpP
  hasP := hasP
  cont := cont
  kS := fun x hx => by rw [hh]; rw [hS] at hx; exact hM.kS x hx
  kP := kP
  fp := hM.fp
  fs := hM.fs
  fm := hM.fm
  nb := fun i hi e => hM.nb i hi (K.bk i (hM.lt i hi) e)
  lt := fun i hi => Nat.lt_of_lt_of_le (hM.lt i hi) K.size
  ps := hM.ps
  pm := hM.pm
  sm := hM.sm
set_option maxRecDepth 20000 in
set_option maxHeartbeats 4000000 in
theorem a1_ok (bb : Nat) (o : Option Addr) (l k : Nat) (w : World) (hb : RowAt bb 1 (fun _ => .slice o l k) w) (hl : ¬ 512 < l) : Calls Try.prog 39 #[.pointer (some ⟨bb, 0, none⟩)] w fun e w' => e = .returned (.int .i64 0) ∧ w' = w := by
  have hq := long_any o l k w
  rw [decide_eq_false (by omega)] at hq
  replace hb := hideit hb
  replace hq := hideit hq
  go_enter Try.func39, Try.ntmps39
  go_upto_region 1 with (fail)
  refine wp_region_lit ?_
  have m1 : w.cell? ⟨bb, 0, none⟩ = some (.slice o l k) := hb.out.1 0 (by decide)
  refine xm [some (.slice o l k)] (by kernel_rfl) (by simp [xr, go_sem, m1]) ?_
  simp only [xw, p0, p1, p2, p3]
  clear m1
  refine wpList_call rfl (by simp [go_sem]) ((hq.out).mono ?_)
  rintro e yy ⟨rfl, hyy⟩
  refine ⟨_, rfl, ?_⟩
  simp only [Act.put, List.setIfInBounds_toArray, List.set_cons_zero, List.set_cons_succ]
  replace hyy := hyy.symm
  subst hyy
  refine wpList_call rfl (by simp [go_sem]) ((refuse_any false 1 w).mono ?_)
  rintro e yy ⟨rfl, hyy⟩
  refine ⟨_, rfl, ?_⟩
  simp only [Act.put, List.setIfInBounds_toArray, List.set_cons_zero, List.set_cons_succ]
  replace hyy := hyy.symm
  subst hyy
  refine xm [some (.int .i64 0)] (by kernel_rfl) (by simp [xr, go_sem]) ?_
  simp only [xw, p0, p1, p2, p3]
  go_wp2
  go_ret
  exact ⟨rfl, rfl⟩
set_option maxRecDepth 20000 in
set_option maxHeartbeats 4000000 in
theorem a1_no (bb : Nat) (o : Option Addr) (l k : Nat) (w : World) (hb : RowAt bb 1 (fun _ => .slice o l k) w) (hl : 512 < l) : Calls Try.prog 39 #[.pointer (some ⟨bb, 0, none⟩)] w fun e w' => e = .returned (.int .i64 1) ∧ w' = w := by
  have hq := long_any o l k w
  rw [decide_eq_true (by omega)] at hq
  replace hb := hideit hb
  replace hq := hideit hq
  go_enter Try.func39, Try.ntmps39
  go_upto_region 1 with (fail)
  refine wp_region_lit ?_
  have m1 : w.cell? ⟨bb, 0, none⟩ = some (.slice o l k) := hb.out.1 0 (by decide)
  refine xm [some (.slice o l k)] (by kernel_rfl) (by simp [xr, go_sem, m1]) ?_
  simp only [xw, p0, p1, p2, p3]
  clear m1
  refine wpList_call rfl (by simp [go_sem]) ((hq.out).mono ?_)
  rintro e yy ⟨rfl, hyy⟩
  refine ⟨_, rfl, ?_⟩
  simp only [Act.put, List.setIfInBounds_toArray, List.set_cons_zero, List.set_cons_succ]
  replace hyy := hyy.symm
  subst hyy
  refine wpList_call rfl (by simp [go_sem]) ((refuse_any true 1 w).mono ?_)
  rintro e yy ⟨rfl, hyy⟩
  refine ⟨_, rfl, ?_⟩
  simp only [Act.put, List.setIfInBounds_toArray, List.set_cons_zero, List.set_cons_succ]
  replace hyy := hyy.symm
  subst hyy
  refine xm [some (.int .i64 1)] (by kernel_rfl) (by simp [xr, go_sem]) ?_
  simp only [xw, p0, p1, p2, p3]
  go_wp2
  go_ret
  exact ⟨rfl, rfl⟩
set_option maxRecDepth 20000 in
set_option maxHeartbeats 4000000 in
theorem a4_has (h : Hd) (sb pb : Nat) (ep : Int) (r : Rt) (op : Bool) (sl : Int) (p bm bn C : Nat) (m : Int → Option Value) (n : Int) (w : World) (hS : RowAt p 64 (mdV h sb pb ep r op sl) w) (hm : RowAt bm 1 (fun _ => .pointer (some ⟨p, 0, none⟩)) w) (hn : RowAt bn 1 (fun _ => .int .i64 n) w) (hP : MapAt Try.prog 3 pb C m w) (hok : okI n) (hh : (m n).isSome = true) : Calls Try.prog 43 #[.pointer (some ⟨bm, 0, none⟩), .pointer (some ⟨bn, 0, none⟩)] w fun e w' => e = .returned (.int .i64 5) ∧ w' = w := by
  have hq := has_any h sb pb ep r op sl p C m n w hS hP hok
  rw [hh] at hq
  replace hS := hideit hS
  replace hm := hideit hm
  replace hn := hideit hn
  replace hP := hideit hP
  replace hq := hideit hq
  go_enter Try.func43, Try.ntmps43
  go_upto_region 1 with (fail)
  refine wp_region_lit ?_
  have m1 : w.cell? ⟨bm, 0, none⟩ = some (.pointer (some ⟨p, 0, none⟩)) := hm.out.1 0 (by decide)
  have m2 : w.cell? ⟨bn, 0, none⟩ = some (.int .i64 (n)) := hn.out.1 0 (by decide)
  refine xm [some (.pointer (some ⟨p, 0, none⟩)), some (.int .i64 (n))] (by kernel_rfl) (by simp [xr, go_sem, m1, m2]) ?_
  simp only [xw, p0, p1, p2, p3]
  clear m1
  clear m2
  refine wpList_call rfl (by simp [go_sem]) ((hq.out).mono ?_)
  rintro e yy ⟨rfl, hyy⟩
  refine ⟨_, rfl, ?_⟩
  simp only [Act.put, List.setIfInBounds_toArray, List.set_cons_zero, List.set_cons_succ]
  replace hyy := hyy.symm
  subst hyy
  refine wpList_call rfl (by simp [go_sem]) ((refuse_any true 5 w).mono ?_)
  rintro e yy ⟨rfl, hyy⟩
  refine ⟨_, rfl, ?_⟩
  simp only [Act.put, List.setIfInBounds_toArray, List.set_cons_zero, List.set_cons_succ]
  replace hyy := hyy.symm
  subst hyy
  refine xm [some (.int .i64 5)] (by kernel_rfl) (by simp [xr, go_sem]) ?_
  simp only [xw, p0, p1, p2, p3]
  go_wp2
  go_ret
  exact ⟨rfl, rfl⟩
set_option maxRecDepth 20000 in
set_option maxHeartbeats 4000000 in
theorem a4_hasnt (h : Hd) (sb pb : Nat) (ep : Int) (r : Rt) (op : Bool) (sl : Int) (p bm bn C : Nat) (m : Int → Option Value) (n : Int) (w : World) (hS : RowAt p 64 (mdV h sb pb ep r op sl) w) (hm : RowAt bm 1 (fun _ => .pointer (some ⟨p, 0, none⟩)) w) (hn : RowAt bn 1 (fun _ => .int .i64 n) w) (hP : MapAt Try.prog 3 pb C m w) (hok : okI n) (hh : (m n).isSome = false) : Calls Try.prog 43 #[.pointer (some ⟨bm, 0, none⟩), .pointer (some ⟨bn, 0, none⟩)] w fun e w' => e = .returned (.int .i64 0) ∧ w' = w := by
  have hq := has_any h sb pb ep r op sl p C m n w hS hP hok
  rw [hh] at hq
  replace hS := hideit hS
  replace hm := hideit hm
  replace hn := hideit hn
  replace hP := hideit hP
  replace hq := hideit hq
  go_enter Try.func43, Try.ntmps43
  go_upto_region 1 with (fail)
  refine wp_region_lit ?_
  have m1 : w.cell? ⟨bm, 0, none⟩ = some (.pointer (some ⟨p, 0, none⟩)) := hm.out.1 0 (by decide)
  have m2 : w.cell? ⟨bn, 0, none⟩ = some (.int .i64 (n)) := hn.out.1 0 (by decide)
  refine xm [some (.pointer (some ⟨p, 0, none⟩)), some (.int .i64 (n))] (by kernel_rfl) (by simp [xr, go_sem, m1, m2]) ?_
  simp only [xw, p0, p1, p2, p3]
  clear m1
  clear m2
  refine wpList_call rfl (by simp [go_sem]) ((hq.out).mono ?_)
  rintro e yy ⟨rfl, hyy⟩
  refine ⟨_, rfl, ?_⟩
  simp only [Act.put, List.setIfInBounds_toArray, List.set_cons_zero, List.set_cons_succ]
  replace hyy := hyy.symm
  subst hyy
  refine wpList_call rfl (by simp [go_sem]) ((refuse_any false 5 w).mono ?_)
  rintro e yy ⟨rfl, hyy⟩
  refine ⟨_, rfl, ?_⟩
  simp only [Act.put, List.setIfInBounds_toArray, List.set_cons_zero, List.set_cons_succ]
  replace hyy := hyy.symm
  subst hyy
  refine xm [some (.int .i64 0)] (by kernel_rfl) (by simp [xr, go_sem]) ?_
  simp only [xw, p0, p1, p2, p3]
  go_wp2
  go_ret
  exact ⟨rfl, rfl⟩
set_option maxRecDepth 20000 in
set_option maxHeartbeats 4000000 in
theorem v3_has (h : Hd) (sb pb : Nat) (ep : Int) (r : Rt) (op : Bool) (sl : Int) (p bm bn C : Nat) (m : Int → Option Value) (n : Int) (w : World) (hS : RowAt p 64 (mdV h sb pb ep r op sl) w) (hm : RowAt bm 1 (fun _ => .pointer (some ⟨p, 0, none⟩)) w) (hn : RowAt bn 1 (fun _ => .int .i64 n) w) (hP : MapAt Try.prog 3 pb C m w) (hok : okI n) (hh : (m n).isSome = true) : Calls Try.prog 47 #[.pointer (some ⟨bm, 0, none⟩), .pointer (some ⟨bn, 0, none⟩)] w fun e w' => e = .returned (.int .i64 0) ∧ w' = w := by
  have hq := has_any h sb pb ep r op sl p C m n w hS hP hok
  rw [hh] at hq
  replace hS := hideit hS
  replace hm := hideit hm
  replace hn := hideit hn
  replace hP := hideit hP
  replace hq := hideit hq
  go_enter Try.func47, Try.ntmps47
  go_upto_region 1 with (fail)
  refine wp_region_lit ?_
  have m1 : w.cell? ⟨bm, 0, none⟩ = some (.pointer (some ⟨p, 0, none⟩)) := hm.out.1 0 (by decide)
  have m2 : w.cell? ⟨bn, 0, none⟩ = some (.int .i64 (n)) := hn.out.1 0 (by decide)
  refine xm [some (.pointer (some ⟨p, 0, none⟩)), some (.int .i64 (n))] (by kernel_rfl) (by simp [xr, go_sem, m1, m2]) ?_
  simp only [xw, p0, p1, p2, p3]
  clear m1
  clear m2
  refine wpList_call rfl (by simp [go_sem]) ((hq.out).mono ?_)
  rintro e yy ⟨rfl, hyy⟩
  refine ⟨_, rfl, ?_⟩
  simp only [Act.put, List.setIfInBounds_toArray, List.set_cons_zero, List.set_cons_succ]
  replace hyy := hyy.symm
  subst hyy
  refine xm [some (.bool false)] (by kernel_rfl) (by simp [xr, go_sem]) ?_
  simp only [xw, p0, p1, p2, p3]
  refine wpList_call rfl (by simp [go_sem]) ((refuse_any false 4 w).mono ?_)
  rintro e yy ⟨rfl, hyy⟩
  refine ⟨_, rfl, ?_⟩
  simp only [Act.put, List.setIfInBounds_toArray, List.set_cons_zero, List.set_cons_succ]
  replace hyy := hyy.symm
  subst hyy
  refine xm [some (.int .i64 0)] (by kernel_rfl) (by simp [xr, go_sem]) ?_
  simp only [xw, p0, p1, p2, p3]
  go_wp2
  go_ret
  exact ⟨rfl, rfl⟩
set_option maxRecDepth 20000 in
set_option maxHeartbeats 4000000 in
theorem v3_hasnt (h : Hd) (sb pb : Nat) (ep : Int) (r : Rt) (op : Bool) (sl : Int) (p bm bn C : Nat) (m : Int → Option Value) (n : Int) (w : World) (hS : RowAt p 64 (mdV h sb pb ep r op sl) w) (hm : RowAt bm 1 (fun _ => .pointer (some ⟨p, 0, none⟩)) w) (hn : RowAt bn 1 (fun _ => .int .i64 n) w) (hP : MapAt Try.prog 3 pb C m w) (hok : okI n) (hh : (m n).isSome = false) : Calls Try.prog 47 #[.pointer (some ⟨bm, 0, none⟩), .pointer (some ⟨bn, 0, none⟩)] w fun e w' => e = .returned (.int .i64 4) ∧ w' = w := by
  have hq := has_any h sb pb ep r op sl p C m n w hS hP hok
  rw [hh] at hq
  replace hS := hideit hS
  replace hm := hideit hm
  replace hn := hideit hn
  replace hP := hideit hP
  replace hq := hideit hq
  go_enter Try.func47, Try.ntmps47
  go_upto_region 1 with (fail)
  refine wp_region_lit ?_
  have m1 : w.cell? ⟨bm, 0, none⟩ = some (.pointer (some ⟨p, 0, none⟩)) := hm.out.1 0 (by decide)
  have m2 : w.cell? ⟨bn, 0, none⟩ = some (.int .i64 (n)) := hn.out.1 0 (by decide)
  refine xm [some (.pointer (some ⟨p, 0, none⟩)), some (.int .i64 (n))] (by kernel_rfl) (by simp [xr, go_sem, m1, m2]) ?_
  simp only [xw, p0, p1, p2, p3]
  clear m1
  clear m2
  refine wpList_call rfl (by simp [go_sem]) ((hq.out).mono ?_)
  rintro e yy ⟨rfl, hyy⟩
  refine ⟨_, rfl, ?_⟩
  simp only [Act.put, List.setIfInBounds_toArray, List.set_cons_zero, List.set_cons_succ]
  replace hyy := hyy.symm
  subst hyy
  refine xm [some (.bool true)] (by kernel_rfl) (by simp [xr, go_sem]) ?_
  simp only [xw, p0, p1, p2, p3]
  refine wpList_call rfl (by simp [go_sem]) ((refuse_any true 4 w).mono ?_)
  rintro e yy ⟨rfl, hyy⟩
  refine ⟨_, rfl, ?_⟩
  simp only [Act.put, List.setIfInBounds_toArray, List.set_cons_zero, List.set_cons_succ]
  replace hyy := hyy.symm
  subst hyy
  refine xm [some (.int .i64 4)] (by kernel_rfl) (by simp [xr, go_sem]) ?_
  simp only [xw, p0, p1, p2, p3]
  go_wp2
  go_ret
  exact ⟨rfl, rfl⟩
set_option maxRecDepth 20000 in
set_option maxHeartbeats 4000000 in
theorem a5_any (h : Hd) (sb pb : Nat) (ep : Int) (r : Rt) (op : Bool) (sl : Int) (p bm bn bb C : Nat) (m : Int → Option Value) (n : Int) (o : Option Addr) (l k : Nat) (f : Nat → BitVec 8) (w : World) (hS : RowAt p 64 (mdV h sb pb ep r op sl) w) (hm : RowAt bm 1 (fun _ => .pointer (some ⟨p, 0, none⟩)) w) (hn : RowAt bn 1 (fun _ => .int .i64 n) w) (hb : RowAt bb 1 (fun _ => .slice o l k) w) (hV : BV (.slice o l k) l f w) (hP : MapAt Try.prog 3 pb C m w) (hok : okI n) (hC : C < maxLen) (hl : l ≤ 512) :
    Calls Try.prog 44 #[.pointer (some ⟨bb, 0, none⟩), .pointer (some ⟨bm, 0, none⟩), .pointer (some ⟨bn, 0, none⟩)] w fun e w' => e = .returned (.int .i64 0) ∧ ∃ vo vk, MapAt Try.prog 3 pb (C + 1) (mset m n (some (.slice vo l vk))) w' ∧ BB (.slice vo l vk) l f w' ∧ Keeps (fun i => i = pb) w w' := by
  replace hS := hideit hS
  replace hm := hideit hm
  replace hn := hideit hn
  replace hb := hideit hb
  replace hV := hideit hV
  replace hP := hideit hP
  replace hok := hideit hok
  replace hC := hideit hC
  replace hl := hideit hl
  have hE := hideit (Ext.refl w)
  go_enter Try.func44, Try.ntmps44
  go_upto_region 1 with (fail)
  replace hS := hideit hS.out.drew
  replace hm := hideit hm.out.drew
  replace hn := hideit hn.out.drew
  replace hb := hideit hb.out.drew
  replace hV := hideit (hV.out.ext (Ext.draw (Ext.refl w)))
  replace hP := hideit (hP.out.ext (Ext.draw (Ext.refl w)))
  replace hE := hideit (Ext.draw hE.out)
  refine wp_region_ladz (fun X => Ext w.drew X) [7] [(false, 0), (false, 1), (false, 2), (false, 3), (false, 4), (false, 5), (true, 6), (true, 7)] (by kernel_rfl) (by kernel_rfl) (by decide +kernel) (by decide +kernel) (by decide +kernel) (by decide +kernel) (Ext.refl _) ?_
  refine wpZ_f _ (.pointer (some ⟨p, 0, none⟩)) rfl rfl (fun X hX => by have m1 : X.cell? ⟨bm, 0, none⟩ = some (.pointer (some ⟨p, 0, none⟩)) := (hm.out.carry hX).1 0 (by decide); simp [go_sem, m1]) ?_
  simp only [List.getElem_toArray, List.getElem_cons_zero, Act.put, List.setIfInBounds_toArray, List.set_cons_zero, List.set_cons_succ]
  refine wpZ_f _ (.pointer (some ⟨p, 0, none⟩)) rfl rfl (fun X _ => by simp [go_sem]) ?_
  simp only [List.getElem_toArray, List.getElem_cons_zero, List.getElem_cons_succ, Act.put, List.setIfInBounds_toArray, List.set_cons_zero, List.set_cons_succ]
  refine wpZ_f _ (.pointer (some ⟨p, 25, none⟩)) rfl rfl (fun X _ => by simp [go_sem]) ?_
  simp only [List.getElem_toArray, List.getElem_cons_zero, List.getElem_cons_succ, Act.put, List.setIfInBounds_toArray, List.set_cons_zero, List.set_cons_succ]
  refine wpZ_f _ (.map (some pb)) rfl rfl (fun X hX => by have m2 : X.cell? ⟨p, 25, none⟩ = some (.map (some pb)) := (hS.out.carry hX).1 25 (by decide); simp [go_sem, m2]) ?_
  simp only [List.getElem_toArray, List.getElem_cons_zero, List.getElem_cons_succ, Act.put, List.setIfInBounds_toArray, List.set_cons_zero, List.set_cons_succ]
  refine wpZ_f _ (.int .i64 (n)) rfl rfl (fun X hX => by have m3 : X.cell? ⟨bn, 0, none⟩ = some (.int .i64 (n)) := (hn.out.carry hX).1 0 (by decide); simp [go_sem, m3]) ?_
  simp only [List.getElem_toArray, List.getElem_cons_zero, List.getElem_cons_succ, Act.put, List.setIfInBounds_toArray, List.set_cons_zero, List.set_cons_succ]
  refine wpZ_f _ (.slice o l k) rfl rfl (fun X hX => by have m4 : X.cell? ⟨bb, 0, none⟩ = some (.slice o l k) := (hb.out.carry hX).1 0 (by decide); simp [go_sem, m4]) ?_
  simp only [List.getElem_toArray, List.getElem_cons_zero, List.getElem_cons_succ, Act.put, List.setIfInBounds_toArray, List.set_cons_zero, List.set_cons_succ]
  refine wpZ_call _ rfl rfl (by simp [go_sem]) ((clone_any (.slice o l k) l f w.drew hV.out (by have := hl.out; omega)).mono ?_)
  rintro e y5 ⟨v5, rfl, hO5, hX5⟩
  refine ⟨_, rfl, fun X => Ext y5 X, .inr (fun X hX => Ext.trans hX5 hX), Ext.refl _, ?_⟩
  simp only [List.getElem_toArray, List.getElem_cons_zero, List.getElem_cons_succ, Act.put, List.setIfInBounds_toArray, List.set_cons_zero, List.set_cons_succ]
  replace hS := hideit (hS.out.carry hX5)
  replace hm := hideit (hm.out.carry hX5)
  replace hn := hideit (hn.out.carry hX5)
  replace hb := hideit (hb.out.carry hX5)
  replace hV := hideit (hV.out.ext hX5)
  replace hP := hideit (hP.out.ext hX5)
  replace hE := hideit (Ext.trans hE.out (hX5))
  have hBB := hideit hO5.bb
  clear hX5 hO5
  obtain ⟨vo, vk, rfl⟩ := hBB.out.1.form
  obtain ⟨vl, hvl⟩ : ∃ q, q = l := ⟨_, rfl⟩
  rw [← hvl] at hBB ⊢
  replace hvl := hideit hvl
  obtain ⟨w4, hr4, hM4, hG4, hz4⟩ := MapAt.put hP.out Try.underlying3 Try.underlying63 hC.out hok.out (.slice vo vl vk)
  refine wpZ_st _ w4 rfl rfl (exec_mput (.tmp 7) (.tmp 8) (.tmp 10) rfl rfl rfl rfl hr4) (fun _ => True) (.inl (by simp)) trivial ?_
  simp only [List.getElem_toArray, List.getElem_cons_zero, List.getElem_cons_succ, Act.put]
  refine wpZ_nil ?_
  have hKp : Keeps (fun i => i = pb) y5 w4 := Keeps.of_grown hG4 (.inl rfl) fun e => (hM4.notB e).elim
  have hF := hideit ((Keeps.of_ext (F := fun i => i = pb) hE.out).trans (F' := fun i => i = pb) hKp fun i hi => .inl hi)
  have hB9 := hideit (hBB.out.keep hKp fun i e => by rw [e]; exact hP.out.notB)
  replace hM4 := hideit hM4
  have hl0 := hvl.out
  clear hr4 hG4 hKp hBB hP hS hm hn hb hV hE
  subst hl0
  go_wp2
  go_ret
  exact ⟨rfl, vo, vk, hM4.out, hB9.out, hF.out⟩
def adE (s : MSt) (n : Int) (l : Nat) : Int := if 512 < l then 1 else if s.r.rk then 230 else if 0 ≤ n ∧ n < s.h.sl then (if (s.P n).isSome then 5 else 0) else 100
def adS (s : MSt) (n : Int) (l : Nat) (f : Nat → BitVec 8) : MSt := { s with P := fun x => if x = n then some (l, f) else s.P x, r := { s.r with ct := s.r.ct + 1#64 } }
set_option maxRecDepth 20000 in
set_option maxHeartbeats 4000000 in
theorem add_do {F : Nat → Prop} {p C : Nat} {M : MLoc} {x : World} (h : Hd) (S : Int → Option (Nat → BitVec 8)) (P : Int → Option (Nat × (Nat → BitVec 8))) (ep : Int) (r : Rt) (sl : Int) (hM : MdM F p ⟨h, S, P, ep, r, true, sl⟩ C M x) (bm bn bb bs : Nat) (n : Int) (o : Option Addr) (l k : Nat) (f : Nat → BitVec 8)
    (hm : RowAt bm 1 (fun _ => .pointer (some ⟨p, 0, none⟩)) x) (hn : RowAt bn 1 (fun _ => .int .i64 n) x) (hb : RowAt bb 1 (fun _ => .slice o l k) x) (hV : BV (.slice o l k) l f x) (hB : RowAt bs 6 (fnV (fun i => [39, 40, 41, 43, 44, 38].getD i 0) (fun i => [#[], #[.pointer (some ⟨p, 0, none⟩)], #[], #[], #[], #[.pointer (some ⟨p, 0, none⟩)]].getD i #[]) (fun i => [#[.pointer (some ⟨bb, 0, none⟩)], #[], #[.pointer (some ⟨bm, 0, none⟩), .pointer (some ⟨bn, 0, none⟩)], #[.pointer (some ⟨bm, 0, none⟩), .pointer (some ⟨bn, 0, none⟩)], #[.pointer (some ⟨bb, 0, none⟩), .pointer (some ⟨bm, 0, none⟩), .pointer (some ⟨bn, 0, none⟩)], #[]].getD i #[])) x) (nF : ¬ F bs) (hok : okI n) (hC : C < maxLen) (E : Int) (s' : MSt) (hEs : E = adE ⟨h, S, P, ep, r, true, sl⟩ n l ∧ s' = if adE ⟨h, S, P, ep, r, true, sl⟩ n l = 0 then adS ⟨h, S, P, ep, r, true, sl⟩ n l f else ⟨h, S, P, ep, r, true, sl⟩) :
    Calls Try.prog 33 #[.pointer (some ⟨p, 0, none⟩), .slice (some ⟨bs, 0, none⟩) 6 6] x fun e w' => e = .returned (.int .i64 E) ∧ (∃ M', MdM F p s' (C + 1) M' w') ∧ Keeps F x w' := by
  obtain ⟨rfl, rfl⟩ := hEs
  have hS := hM.st
  have hw2 := rrek_any h M.sb M.pb ep r true sl p x hS
  have hw3 := a3_any h M.sb M.pb ep r true sl p bm bn n x hS hm hn
  unfold adE
  by_cases hl : 512 < l
  · rw [if_pos hl, if_neg (show ¬ (1 : Int) = 0 by decide)]
    refine (do_refuse h M.sb M.pb ep r sl p bs 6 0 1 (fun i => [39, 40, 41, 43, 44, 38].getD i 0) (fun i => [#[], #[.pointer (some ⟨p, 0, none⟩)], #[], #[], #[], #[.pointer (some ⟨p, 0, none⟩)]].getD i #[]) (fun i => [#[.pointer (some ⟨bb, 0, none⟩)], #[], #[.pointer (some ⟨bm, 0, none⟩), .pointer (some ⟨bn, 0, none⟩)], #[.pointer (some ⟨bm, 0, none⟩), .pointer (some ⟨bn, 0, none⟩)], #[.pointer (some ⟨bb, 0, none⟩), .pointer (some ⟨bm, 0, none⟩), .pointer (some ⟨bn, 0, none⟩)], #[]].getD i #[]) x hS (by decide) hB (by decide) (by decide) (fun i hi args X => by rcases (by omega : i = 0 ∨ i = 1 ∨ i = 2 ∨ i = 3 ∨ i = 4 ∨ i = 5) with rfl | rfl | rfl | rfl | rfl | rfl <;> simp [go_sem]) (fun i hi => ?_) ?_).mono ?_
    · exact absurd hi (Nat.not_lt_zero _)
    · exact a1_no bb o l k x hb hl
    · rintro e w' ⟨q1, rfl⟩
      exact ⟨q1, ⟨M, hM.mono (Nat.le_succ C)⟩, Keeps.refl _ _⟩
  · rw [if_neg hl]
    have hw1 := a1_ok bb o l k x hb hl
    by_cases hr : r.rk = true
    · rw [if_pos hr] at hw2
      rw [if_pos (show (⟨h, S, P, ep, r, true, sl⟩ : MSt).r.rk = true from hr), if_neg (show ¬ (230 : Int) = 0 by decide)]
      refine (do_refuse h M.sb M.pb ep r sl p bs 6 1 230 (fun i => [39, 40, 41, 43, 44, 38].getD i 0) (fun i => [#[], #[.pointer (some ⟨p, 0, none⟩)], #[], #[], #[], #[.pointer (some ⟨p, 0, none⟩)]].getD i #[]) (fun i => [#[.pointer (some ⟨bb, 0, none⟩)], #[], #[.pointer (some ⟨bm, 0, none⟩), .pointer (some ⟨bn, 0, none⟩)], #[.pointer (some ⟨bm, 0, none⟩), .pointer (some ⟨bn, 0, none⟩)], #[.pointer (some ⟨bb, 0, none⟩), .pointer (some ⟨bm, 0, none⟩), .pointer (some ⟨bn, 0, none⟩)], #[]].getD i #[]) x hS (by decide) hB (by decide) (by decide) (fun i hi args X => by rcases (by omega : i = 0 ∨ i = 1 ∨ i = 2 ∨ i = 3 ∨ i = 4 ∨ i = 5) with rfl | rfl | rfl | rfl | rfl | rfl <;> simp [go_sem]) (fun i hi => ?_) ?_).mono ?_
      · obtain rfl : i = 0 := by omega
        exact hw1
      · exact hw2
      · rintro e w' ⟨q1, rfl⟩
        exact ⟨q1, ⟨M, hM.mono (Nat.le_succ C)⟩, Keeps.refl _ _⟩
    · rw [if_neg hr] at hw2
      rw [if_neg (show ¬ (⟨h, S, P, ep, r, true, sl⟩ : MSt).r.rk = true from hr)]
      by_cases hg : 0 ≤ n ∧ n < h.sl
      · rw [if_pos hg] at hw3
        rw [if_pos hg]
        cases hp : (P n).isSome with
        | true =>
          have hm2 : (M.m n).isSome = true := (hM.hasP n).trans hp
          have hw4 := a4_has h M.sb M.pb ep r true sl p bm bn C M.m n x hS hm hn hM.mpP hok hm2
          rw [if_pos rfl, if_neg (show ¬ (5 : Int) = 0 by decide)]
          refine (do_refuse h M.sb M.pb ep r sl p bs 6 3 5 (fun i => [39, 40, 41, 43, 44, 38].getD i 0) (fun i => [#[], #[.pointer (some ⟨p, 0, none⟩)], #[], #[], #[], #[.pointer (some ⟨p, 0, none⟩)]].getD i #[]) (fun i => [#[.pointer (some ⟨bb, 0, none⟩)], #[], #[.pointer (some ⟨bm, 0, none⟩), .pointer (some ⟨bn, 0, none⟩)], #[.pointer (some ⟨bm, 0, none⟩), .pointer (some ⟨bn, 0, none⟩)], #[.pointer (some ⟨bb, 0, none⟩), .pointer (some ⟨bm, 0, none⟩), .pointer (some ⟨bn, 0, none⟩)], #[]].getD i #[]) x hS (by decide) hB (by decide) (by decide) (fun i hi args X => by rcases (by omega : i = 0 ∨ i = 1 ∨ i = 2 ∨ i = 3 ∨ i = 4 ∨ i = 5) with rfl | rfl | rfl | rfl | rfl | rfl <;> simp [go_sem]) (fun i hi => ?_) ?_).mono ?_
          · rcases (by omega : i = 0 ∨ i = 1 ∨ i = 2) with rfl | rfl | rfl
            · exact hw1
            · exact hw2
            · exact hw3
          · exact hw4
          · rintro e w' ⟨q1, rfl⟩
            exact ⟨q1, ⟨M, hM.mono (Nat.le_succ C)⟩, Keeps.refl _ _⟩
        | false =>
          have hm2 : (M.m n).isSome = false := (hM.hasP n).trans hp
          have hw4 := a4_hasnt h M.sb M.pb ep r true sl p bm bn C M.m n x hS hm hn hM.mpP hok hm2
          rw [if_neg (by decide), if_pos rfl]
          have hS2 : ∀ W, Keeps (fun i => i = M.pb) x W → RowAt p 64 (mdV h M.sb M.pb ep r true sl) W := fun W hK => hS.keep hK hM.pm
          refine (do_pass h M.sb M.pb ep r sl p bs 6 4 (fun i => [39, 40, 41, 43, 44, 38].getD i 0) (fun i => [#[], #[.pointer (some ⟨p, 0, none⟩)], #[], #[], #[], #[.pointer (some ⟨p, 0, none⟩)]].getD i #[]) (fun i => [#[.pointer (some ⟨bb, 0, none⟩)], #[], #[.pointer (some ⟨bm, 0, none⟩), .pointer (some ⟨bn, 0, none⟩)], #[.pointer (some ⟨bm, 0, none⟩), .pointer (some ⟨bn, 0, none⟩)], #[.pointer (some ⟨bb, 0, none⟩), .pointer (some ⟨bm, 0, none⟩), .pointer (some ⟨bn, 0, none⟩)], #[]].getD i #[]) x hS (by decide) hB rfl (fun W => ∃ vo vk, MapAt Try.prog 3 M.pb (C + 1) (mset M.m n (some (.slice vo l vk))) W ∧ BB (.slice vo l vk) l f W ∧ Keeps (fun i => i = M.pb) x W)
            (fun W => (∃ vo vk, MapAt Try.prog 3 M.pb (C + 1) (mset M.m n (some (.slice vo l vk))) W ∧ BB (.slice vo l vk) l f W ∧ Keeps (fun i => i = M.pb ∨ i = p) x W) ∧ RowAt p 64 (mdV h M.sb M.pb ep { r with ct := r.ct + 1#64 } true sl) W)
            (fun W ⟨_, _, _, _, hK⟩ => hB.keep hK fun e => nF (by rw [e]; exact hM.fm)) (fun W ⟨⟨_, _, _, _, hK⟩, _⟩ => hB.keep hK fun e => nF (by rcases e with e | e <;> rw [e]; exact hM.fm; exact hM.fp))
            (fun i hi args X => by rcases (by omega : i = 0 ∨ i = 1 ∨ i = 2 ∨ i = 3 ∨ i = 4 ∨ i = 5) with rfl | rfl | rfl | rfl | rfl | rfl <;> simp [go_sem]) (fun i hi => ?_) ?_ (fun W hW => ?_)).mono ?_
          · rcases (by omega : i = 0 ∨ i = 1 ∨ i = 2 ∨ i = 3) with rfl | rfl | rfl | rfl
            · exact hw1
            · exact hw2
            · exact hw3
            · exact hw4
          · exact a5_any h M.sb M.pb ep r true sl p bm bn bb C M.m n o l k f x hS hm hn hb hV hM.mpP hok hC (by omega)
          · obtain ⟨vo, vk, h1, h2, h3⟩ := hW
            exact (count_any h M.sb M.pb ep r true sl p W (hS2 W h3)).mono fun e w' ⟨q1, q2, q3⟩ => ⟨q1, ⟨vo, vk, h1.keep q2 fun e => hM.pm e.symm, h2.keep q2 fun i hi hb => by rw [hi] at hb; exact hM.nb p hM.fp (h3.bk p (hM.lt p hM.fp) hb), (h3.mono fun i hi => .inl hi).trans q2 fun i hi => .inl (.inr hi)⟩, q3⟩
          · rintro e w' ⟨q1, ⟨vo, vk, q2, q3, q4⟩, q5⟩
            have hGF : ∀ i, (i = M.pb ∨ i = p) → F i := fun i hi => by rcases hi with rfl | rfl; exact hM.fm; exact hM.fp
            refine ⟨q1, ⟨_, hM.stepP q4 hGF (adS ⟨h, S, P, ep, r, true, sl⟩ n l f) rfl rfl hM.eps _ q5 q2 (Nat.le_succ C) (fun x => ?_) (fun x v hx => ?_) (fun x hx => ?_) (fun e => by rcases e with e | e; exact hM.sm e; exact hM.ps e.symm)⟩, q4.mono hGF⟩
            · show (if x = n then _ else M.m x).isSome = (if x = n then some (l, f) else P x).isSome
              by_cases e : x = n
              · rw [if_pos e, if_pos e]; rfl
              · rw [if_neg e, if_neg e]; exact hM.hasP x
            · have hx : (if x = n then some (Value.slice vo l vk) else M.m x) = some v := hx
              by_cases e : x = n
              · rw [if_pos e] at hx
                injection hx with hx
                subst hx
                exact ⟨l, f, if_pos e, by omega, q3⟩
              · rw [if_neg e] at hx
                obtain ⟨l', f', a1, a2, a3⟩ := hM.cont x v hx
                exact ⟨l', f', (if_neg e).trans a1, a2, a3.keep q4 fun i hi => hM.nb i (hGF i hi)⟩
            · have hx : (if x = n then some (l, f) else P x) ≠ none := hx
              by_cases e : x = n
              · subst e; exact hg
              · rw [if_neg e] at hx; exact hM.kP x hx
      · rw [if_neg hg] at hw3
        rw [if_neg hg, if_neg (show ¬ (100 : Int) = 0 by decide)]
        refine (do_refuse h M.sb M.pb ep r sl p bs 6 2 100 (fun i => [39, 40, 41, 43, 44, 38].getD i 0) (fun i => [#[], #[.pointer (some ⟨p, 0, none⟩)], #[], #[], #[], #[.pointer (some ⟨p, 0, none⟩)]].getD i #[]) (fun i => [#[.pointer (some ⟨bb, 0, none⟩)], #[], #[.pointer (some ⟨bm, 0, none⟩), .pointer (some ⟨bn, 0, none⟩)], #[.pointer (some ⟨bm, 0, none⟩), .pointer (some ⟨bn, 0, none⟩)], #[.pointer (some ⟨bb, 0, none⟩), .pointer (some ⟨bm, 0, none⟩), .pointer (some ⟨bn, 0, none⟩)], #[]].getD i #[]) x hS (by decide) hB (by decide) (by decide) (fun i hi args X => by rcases (by omega : i = 0 ∨ i = 1 ∨ i = 2 ∨ i = 3 ∨ i = 4 ∨ i = 5) with rfl | rfl | rfl | rfl | rfl | rfl <;> simp [go_sem]) (fun i hi => ?_) ?_).mono ?_
        · rcases (by omega : i = 0 ∨ i = 1) with rfl | rfl
          · exact hw1
          · exact hw2
        · exact hw3
        · rintro e w' ⟨q1, rfl⟩
          exact ⟨q1, ⟨M, hM.mono (Nat.le_succ C)⟩, Keeps.refl _ _⟩
set_option maxRecDepth 20000 in
set_option maxHeartbeats 4000000 in
theorem add_open {F : Nat → Prop} {p C : Nat} {M : MLoc} {w : World} (h : Hd) (S : Int → Option (Nat → BitVec 8)) (P : Int → Option (Nat × (Nat → BitVec 8))) (ep : Int) (r : Rt) (sl : Int) (hM : MdM F p ⟨h, S, P, ep, r, true, sl⟩ C M w) (n : Int) (o : Option Addr) (l k : Nat) (f : Nat → BitVec 8) (hV : BV (.slice o l k) l f w) (hok : okI n) (hC : C < maxLen) (E : Int) (s' : MSt) (hEs : E = adE ⟨h, S, P, ep, r, true, sl⟩ n l ∧ s' = if adE ⟨h, S, P, ep, r, true, sl⟩ n l = 0 then adS ⟨h, S, P, ep, r, true, sl⟩ n l f else ⟨h, S, P, ep, r, true, sl⟩) :
    Calls Try.prog 13 #[.pointer (some ⟨p, 0, none⟩), .int .i64 n, .slice o l k] w fun e w' => e = .returned (.int .i64 E) ∧ (∃ M', MdM F p s' (C + 1) M' w') ∧ Keeps F w w' := by
  have hlt := hideit hM.lt
  replace hM := hideit hM
  replace hV := hideit hV
  replace hok := hideit hok
  replace hC := hideit hC
  replace hEs := hideit hEs
  have hE := hideit (Ext.refl w)
  go_enter Try.func13, Try.ntmps13
  go_upto_region 0 with (fail)
  refine wp_region_lit ?_
  have A0 := hideit (row1_new w (.pointer (some ⟨p, 0, none⟩)) 26)
  have XB : Ext w (w.alloc (.cells #[.pointer (some ⟨p, 0, none⟩)] 26)) := (Below.refl _ _).alloc (Nat.le_refl _) _
  have L0 := hideit (hM.out.ext XB)
  have L1 := hideit (hV.out.ext XB)
  have AE := hideit (Ext.trans hE.out (XB))
  have AB := hideit (hE.out.size)
  clear XB
  refine wpList_to rfl (.pointer (some ⟨w.heap.size, 0, none⟩)) (w.alloc (.cells #[.pointer (some ⟨p, 0, none⟩)] 26)) (by simp [go_sem]) ?_
  simp only [Act.put, List.setIfInBounds_toArray, List.set_cons_zero, List.set_cons_succ]
  generalize w.alloc (.cells #[.pointer (some ⟨p, 0, none⟩)] 26) = x2 at A0 L0 L1 AE ⊢
  obtain ⟨z1, ez1⟩ : ∃ b, b = w.heap.size := ⟨_, rfl⟩
  have ABz1 : Hid (w.heap.size ≤ z1) := by rw [ez1]; exact AB.out
  clear AB
  rw [← ez1] at A0  ⊢
  clear ez1
  have Hz1 := A0
  clear A0
  replace hM := L0
  clear L0
  replace hV := L1
  clear L1
  replace hE := AE
  clear AE
  have A0 := hideit (row1_new x2 (.int .i64 (n)) 3)
  have XB : Ext x2 (x2.alloc (.cells #[.int .i64 (n)] 3)) := (Below.refl _ _).alloc (Nat.le_refl _) _
  have A1 := hideit (Hz1.out.carry XB)
  have L0 := hideit (hM.out.ext XB)
  have L1 := hideit (hV.out.ext XB)
  have AE := hideit (Ext.trans hE.out (XB))
  have AB := hideit (hE.out.size)
  have D0 : Hid (z1 ≠ x2.heap.size) := Nat.ne_of_lt Hz1.out.2.2
  clear XB
  refine wpList_to rfl (.pointer (some ⟨x2.heap.size, 0, none⟩)) (x2.alloc (.cells #[.int .i64 (n)] 3)) (by simp [go_sem]) ?_
  simp only [Act.put, List.setIfInBounds_toArray, List.set_cons_zero, List.set_cons_succ]
  generalize x2.alloc (.cells #[.int .i64 (n)] 3) = x4 at A0 A1 L0 L1 AE ⊢
  obtain ⟨z3, ez3⟩ : ∃ b, b = x2.heap.size := ⟨_, rfl⟩
  have ABz3 : Hid (w.heap.size ≤ z3) := by rw [ez3]; exact AB.out
  clear AB
  rw [← ez3] at A0 D0 ⊢
  clear ez3
  have Hz3 := A0
  clear A0
  replace Hz1 := A1
  clear A1
  replace hM := L0
  clear L0
  replace hV := L1
  clear L1
  replace hE := AE
  clear AE
  have Dz3_0 := D0
  clear D0
  have A0 := hideit (row1_new x4 (.slice o l k) 22)
  have XB : Ext x4 (x4.alloc (.cells #[.slice o l k] 22)) := (Below.refl _ _).alloc (Nat.le_refl _) _
  have A1 := hideit (Hz1.out.carry XB)
  have A2 := hideit (Hz3.out.carry XB)
  have L0 := hideit (hM.out.ext XB)
  have L1 := hideit (hV.out.ext XB)
  have AE := hideit (Ext.trans hE.out (XB))
  have AB := hideit (hE.out.size)
  have D0 : Hid (z1 ≠ x4.heap.size) := Nat.ne_of_lt Hz1.out.2.2
  have D1 : Hid (z3 ≠ x4.heap.size) := Nat.ne_of_lt Hz3.out.2.2
  clear XB
  refine wpList_to rfl (.pointer (some ⟨x4.heap.size, 0, none⟩)) (x4.alloc (.cells #[.slice o l k] 22)) (by simp [go_sem]) ?_
  simp only [Act.put, List.setIfInBounds_toArray, List.set_cons_zero, List.set_cons_succ]
  generalize x4.alloc (.cells #[.slice o l k] 22) = x6 at A0 A1 A2 L0 L1 AE ⊢
  obtain ⟨z5, ez5⟩ : ∃ b, b = x4.heap.size := ⟨_, rfl⟩
  have ABz5 : Hid (w.heap.size ≤ z5) := by rw [ez5]; exact AB.out
  clear AB
  rw [← ez5] at A0 D0 D1 ⊢
  clear ez5
  have Hz5 := A0
  clear A0
  replace Hz1 := A1
  clear A1
  replace Hz3 := A2
  clear A2
  replace hM := L0
  clear L0
  replace hV := L1
  clear L1
  replace hE := AE
  clear AE
  have Dz5_0 := D0
  clear D0
  have Dz5_1 := D1
  clear D1
  refine xm [some (.int .i64 0)] (by kernel_rfl) (by simp [xr, go_sem]) ?_
  simp only [xw, p0, p1, p2, p3]
  go_upto_region 1 with (fail)
  refine wp_region_lit ?_
  have m7 : x6.cell? ⟨z1, 0, none⟩ = some (.pointer (some ⟨p, 0, none⟩)) := Hz1.out.1 0 (by decide)
  refine xm [some (.pointer (some ⟨p, 0, none⟩)), some (.func (.func 39) #[] #[.pointer (some ⟨z5, 0, none⟩)]), some (.pointer (some ⟨p, 0, none⟩)), some (.func (.func 40) #[.pointer (some ⟨p, 0, none⟩)] #[]), some (.func (.func 41) #[] #[.pointer (some ⟨z1, 0, none⟩), .pointer (some ⟨z3, 0, none⟩)]), some (.func (.func 43) #[] #[.pointer (some ⟨z1, 0, none⟩), .pointer (some ⟨z3, 0, none⟩)]), some (.func (.func 44) #[] #[.pointer (some ⟨z5, 0, none⟩), .pointer (some ⟨z1, 0, none⟩), .pointer (some ⟨z3, 0, none⟩)]), some (.pointer (some ⟨p, 0, none⟩)), some (.func (.func 38) #[.pointer (some ⟨p, 0, none⟩)] #[])] (by kernel_rfl) (by simp [xr, go_sem, m7]) ?_
  simp only [xw, p0, p1, p2, p3]
  clear m7
  have A0 := hideit (RowAt.newOf x6 6 (fnV (fun i => [39, 40, 41, 43, 44, 38].getD i 0) (fun i => [#[], #[.pointer (some ⟨p, 0, none⟩)], #[], #[], #[], #[.pointer (some ⟨p, 0, none⟩)]].getD i #[]) (fun i => [#[.pointer (some ⟨z5, 0, none⟩)], #[], #[.pointer (some ⟨z1, 0, none⟩), .pointer (some ⟨z3, 0, none⟩)], #[.pointer (some ⟨z1, 0, none⟩), .pointer (some ⟨z3, 0, none⟩)], #[.pointer (some ⟨z5, 0, none⟩), .pointer (some ⟨z1, 0, none⟩), .pointer (some ⟨z3, 0, none⟩)], #[]].getD i #[])) 47 #[.func (.func 39) #[] #[.pointer (some ⟨z5, 0, none⟩)], .func (.func 40) #[.pointer (some ⟨p, 0, none⟩)] #[], .func (.func 41) #[] #[.pointer (some ⟨z1, 0, none⟩), .pointer (some ⟨z3, 0, none⟩)], .func (.func 43) #[] #[.pointer (some ⟨z1, 0, none⟩), .pointer (some ⟨z3, 0, none⟩)], .func (.func 44) #[] #[.pointer (some ⟨z5, 0, none⟩), .pointer (some ⟨z1, 0, none⟩), .pointer (some ⟨z3, 0, none⟩)], .func (.func 38) #[.pointer (some ⟨p, 0, none⟩)] #[]] (fun j hj => by rcases (by omega : j = 0 ∨ j = 1 ∨ j = 2 ∨ j = 3 ∨ j = 4 ∨ j = 5) with rfl | rfl | rfl | rfl | rfl | rfl <;> rfl))
  have XB : Ext x6 (x6.alloc (.cells #[.func (.func 39) #[] #[.pointer (some ⟨z5, 0, none⟩)], .func (.func 40) #[.pointer (some ⟨p, 0, none⟩)] #[], .func (.func 41) #[] #[.pointer (some ⟨z1, 0, none⟩), .pointer (some ⟨z3, 0, none⟩)], .func (.func 43) #[] #[.pointer (some ⟨z1, 0, none⟩), .pointer (some ⟨z3, 0, none⟩)], .func (.func 44) #[] #[.pointer (some ⟨z5, 0, none⟩), .pointer (some ⟨z1, 0, none⟩), .pointer (some ⟨z3, 0, none⟩)], .func (.func 38) #[.pointer (some ⟨p, 0, none⟩)] #[]] 47)) := (Below.refl _ _).alloc (Nat.le_refl _) _
  have A1 := hideit (Hz1.out.carry XB)
  have A2 := hideit (Hz3.out.carry XB)
  have A3 := hideit (Hz5.out.carry XB)
  have L0 := hideit (hM.out.ext XB)
  have L1 := hideit (hV.out.ext XB)
  have AE := hideit (Ext.trans hE.out (XB))
  have AB := hideit (hE.out.size)
  have D0 : Hid (z1 ≠ x6.heap.size) := Nat.ne_of_lt Hz1.out.2.2
  have D1 : Hid (z3 ≠ x6.heap.size) := Nat.ne_of_lt Hz3.out.2.2
  have D2 : Hid (z5 ≠ x6.heap.size) := Nat.ne_of_lt Hz5.out.2.2
  clear XB
  refine wpList_to rfl (.slice (some ⟨x6.heap.size, 0, none⟩) 6 6) (x6.alloc (.cells #[.func (.func 39) #[] #[.pointer (some ⟨z5, 0, none⟩)], .func (.func 40) #[.pointer (some ⟨p, 0, none⟩)] #[], .func (.func 41) #[] #[.pointer (some ⟨z1, 0, none⟩), .pointer (some ⟨z3, 0, none⟩)], .func (.func 43) #[] #[.pointer (some ⟨z1, 0, none⟩), .pointer (some ⟨z3, 0, none⟩)], .func (.func 44) #[] #[.pointer (some ⟨z5, 0, none⟩), .pointer (some ⟨z1, 0, none⟩), .pointer (some ⟨z3, 0, none⟩)], .func (.func 38) #[.pointer (some ⟨p, 0, none⟩)] #[]] 47)) (by simp [go_sem]) ?_
  simp only [Act.put, List.setIfInBounds_toArray, List.set_cons_zero, List.set_cons_succ]
  generalize x6.alloc (.cells #[.func (.func 39) #[] #[.pointer (some ⟨z5, 0, none⟩)], .func (.func 40) #[.pointer (some ⟨p, 0, none⟩)] #[], .func (.func 41) #[] #[.pointer (some ⟨z1, 0, none⟩), .pointer (some ⟨z3, 0, none⟩)], .func (.func 43) #[] #[.pointer (some ⟨z1, 0, none⟩), .pointer (some ⟨z3, 0, none⟩)], .func (.func 44) #[] #[.pointer (some ⟨z5, 0, none⟩), .pointer (some ⟨z1, 0, none⟩), .pointer (some ⟨z3, 0, none⟩)], .func (.func 38) #[.pointer (some ⟨p, 0, none⟩)] #[]] 47) = x11 at A0 A1 A2 A3 L0 L1 AE ⊢
  obtain ⟨z10, ez10⟩ : ∃ b, b = x6.heap.size := ⟨_, rfl⟩
  have ABz10 : Hid (w.heap.size ≤ z10) := by rw [ez10]; exact AB.out
  clear AB
  rw [← ez10] at A0 D0 D1 D2 ⊢
  clear ez10
  have Hz10 := A0
  clear A0
  replace Hz1 := A1
  clear A1
  replace Hz3 := A2
  clear A2
  replace Hz5 := A3
  clear A3
  replace hM := L0
  clear L0
  replace hV := L1
  clear L1
  replace hE := AE
  clear AE
  have Dz10_0 := D0
  clear D0
  have Dz10_1 := D1
  clear D1
  have Dz10_2 := D2
  clear D2
  have nF : ¬ F z10 := fun e => by have := hlt.out z10 e; have := ABz10.out; omega
  have kd := hideit (add_do h S P ep r sl hM.out z1 z3 z5 z10 n o l k f Hz1.out Hz3.out Hz5.out hV.out Hz10.out nF hok.out hC.out E s' hEs.out)
  refine wpList_call rfl (by simp [go_sem]) ((kd.out).mono ?_)
  rintro e y9 ⟨rfl, hM9, hK9⟩
  refine ⟨_, rfl, ?_⟩
  simp only [Act.put, List.setIfInBounds_toArray, List.set_cons_zero, List.set_cons_succ]
  replace hM9 := hideit hM9
  replace hK9 := hideit ((Keeps.of_ext hE.out).trans hK9 fun i hi => .inl hi)
  clear kd hM nF
  refine xm [some (.int .i64 (E))] (by kernel_rfl) (by simp [xr, go_sem]) ?_
  simp only [xw, p0, p1, p2, p3]
  go_wp2
  go_ret
  exact ⟨rfl, hM9.out, hK9.out⟩
set_option maxRecDepth 20000 in
set_option maxHeartbeats 4000000 in
theorem add_shut {F : Nat → Prop} {p C : Nat} {M : MLoc} {w : World} (h : Hd) (S : Int → Option (Nat → BitVec 8)) (P : Int → Option (Nat × (Nat → BitVec 8))) (ep : Int) (r : Rt) (sl : Int) (hM : MdM F p ⟨h, S, P, ep, r, false, sl⟩ C M w) (n : Int) (o : Option Addr) (l k : Nat) :
    Calls Try.prog 13 #[.pointer (some ⟨p, 0, none⟩), .int .i64 n, .slice o l k] w fun e w' => e = .returned (.int .i64 6) ∧ Ext w w' := by
  replace hM := hideit hM
  have hE := hideit (Ext.refl w)
  go_enter Try.func13, Try.ntmps13
  go_upto_region 0 with (fail)
  refine wp_region_lit ?_
  have A0 := hideit (row1_new w (.pointer (some ⟨p, 0, none⟩)) 26)
  have XB : Ext w (w.alloc (.cells #[.pointer (some ⟨p, 0, none⟩)] 26)) := (Below.refl _ _).alloc (Nat.le_refl _) _
  have L0 := hideit (hM.out.ext XB)
  have AE := hideit (Ext.trans hE.out (XB))
  have AB := hideit (hE.out.size)
  clear XB
  refine wpList_to rfl (.pointer (some ⟨w.heap.size, 0, none⟩)) (w.alloc (.cells #[.pointer (some ⟨p, 0, none⟩)] 26)) (by simp [go_sem]) ?_
  simp only [Act.put, List.setIfInBounds_toArray, List.set_cons_zero, List.set_cons_succ]
  generalize w.alloc (.cells #[.pointer (some ⟨p, 0, none⟩)] 26) = x2 at A0 L0 AE ⊢
  obtain ⟨z1, ez1⟩ : ∃ b, b = w.heap.size := ⟨_, rfl⟩
  have ABz1 : Hid (w.heap.size ≤ z1) := by rw [ez1]; exact AB.out
  clear AB
  rw [← ez1] at A0  ⊢
  clear ez1
  have Hz1 := A0
  clear A0
  replace hM := L0
  clear L0
  replace hE := AE
  clear AE
  have A0 := hideit (row1_new x2 (.int .i64 (n)) 3)
  have XB : Ext x2 (x2.alloc (.cells #[.int .i64 (n)] 3)) := (Below.refl _ _).alloc (Nat.le_refl _) _
  have A1 := hideit (Hz1.out.carry XB)
  have L0 := hideit (hM.out.ext XB)
  have AE := hideit (Ext.trans hE.out (XB))
  have AB := hideit (hE.out.size)
  have D0 : Hid (z1 ≠ x2.heap.size) := Nat.ne_of_lt Hz1.out.2.2
  clear XB
  refine wpList_to rfl (.pointer (some ⟨x2.heap.size, 0, none⟩)) (x2.alloc (.cells #[.int .i64 (n)] 3)) (by simp [go_sem]) ?_
  simp only [Act.put, List.setIfInBounds_toArray, List.set_cons_zero, List.set_cons_succ]
  generalize x2.alloc (.cells #[.int .i64 (n)] 3) = x4 at A0 A1 L0 AE ⊢
  obtain ⟨z3, ez3⟩ : ∃ b, b = x2.heap.size := ⟨_, rfl⟩
  have ABz3 : Hid (w.heap.size ≤ z3) := by rw [ez3]; exact AB.out
  clear AB
  rw [← ez3] at A0 D0 ⊢
  clear ez3
  have Hz3 := A0
  clear A0
  replace Hz1 := A1
  clear A1
  replace hM := L0
  clear L0
  replace hE := AE
  clear AE
  have Dz3_0 := D0
  clear D0
  have A0 := hideit (row1_new x4 (.slice o l k) 22)
  have XB : Ext x4 (x4.alloc (.cells #[.slice o l k] 22)) := (Below.refl _ _).alloc (Nat.le_refl _) _
  have A1 := hideit (Hz1.out.carry XB)
  have A2 := hideit (Hz3.out.carry XB)
  have L0 := hideit (hM.out.ext XB)
  have AE := hideit (Ext.trans hE.out (XB))
  have AB := hideit (hE.out.size)
  have D0 : Hid (z1 ≠ x4.heap.size) := Nat.ne_of_lt Hz1.out.2.2
  have D1 : Hid (z3 ≠ x4.heap.size) := Nat.ne_of_lt Hz3.out.2.2
  clear XB
  refine wpList_to rfl (.pointer (some ⟨x4.heap.size, 0, none⟩)) (x4.alloc (.cells #[.slice o l k] 22)) (by simp [go_sem]) ?_
  simp only [Act.put, List.setIfInBounds_toArray, List.set_cons_zero, List.set_cons_succ]
  generalize x4.alloc (.cells #[.slice o l k] 22) = x6 at A0 A1 A2 L0 AE ⊢
  obtain ⟨z5, ez5⟩ : ∃ b, b = x4.heap.size := ⟨_, rfl⟩
  have ABz5 : Hid (w.heap.size ≤ z5) := by rw [ez5]; exact AB.out
  clear AB
  rw [← ez5] at A0 D0 D1 ⊢
  clear ez5
  have Hz5 := A0
  clear A0
  replace Hz1 := A1
  clear A1
  replace Hz3 := A2
  clear A2
  replace hM := L0
  clear L0
  replace hE := AE
  clear AE
  have Dz5_0 := D0
  clear D0
  have Dz5_1 := D1
  clear D1
  refine xm [some (.int .i64 0)] (by kernel_rfl) (by simp [xr, go_sem]) ?_
  simp only [xw, p0, p1, p2, p3]
  go_upto_region 1 with (fail)
  refine wp_region_lit ?_
  have m7 : x6.cell? ⟨z1, 0, none⟩ = some (.pointer (some ⟨p, 0, none⟩)) := Hz1.out.1 0 (by decide)
  refine xm [some (.pointer (some ⟨p, 0, none⟩)), some (.func (.func 39) #[] #[.pointer (some ⟨z5, 0, none⟩)]), some (.pointer (some ⟨p, 0, none⟩)), some (.func (.func 40) #[.pointer (some ⟨p, 0, none⟩)] #[]), some (.func (.func 41) #[] #[.pointer (some ⟨z1, 0, none⟩), .pointer (some ⟨z3, 0, none⟩)]), some (.func (.func 43) #[] #[.pointer (some ⟨z1, 0, none⟩), .pointer (some ⟨z3, 0, none⟩)]), some (.func (.func 44) #[] #[.pointer (some ⟨z5, 0, none⟩), .pointer (some ⟨z1, 0, none⟩), .pointer (some ⟨z3, 0, none⟩)]), some (.pointer (some ⟨p, 0, none⟩)), some (.func (.func 38) #[.pointer (some ⟨p, 0, none⟩)] #[])] (by kernel_rfl) (by simp [xr, go_sem, m7]) ?_
  simp only [xw, p0, p1, p2, p3]
  clear m7
  have A0 := hideit (RowAt.newOf x6 6 (fnV (fun i => [39, 40, 41, 43, 44, 38].getD i 0) (fun i => [#[], #[.pointer (some ⟨p, 0, none⟩)], #[], #[], #[], #[.pointer (some ⟨p, 0, none⟩)]].getD i #[]) (fun i => [#[.pointer (some ⟨z5, 0, none⟩)], #[], #[.pointer (some ⟨z1, 0, none⟩), .pointer (some ⟨z3, 0, none⟩)], #[.pointer (some ⟨z1, 0, none⟩), .pointer (some ⟨z3, 0, none⟩)], #[.pointer (some ⟨z5, 0, none⟩), .pointer (some ⟨z1, 0, none⟩), .pointer (some ⟨z3, 0, none⟩)], #[]].getD i #[])) 47 #[.func (.func 39) #[] #[.pointer (some ⟨z5, 0, none⟩)], .func (.func 40) #[.pointer (some ⟨p, 0, none⟩)] #[], .func (.func 41) #[] #[.pointer (some ⟨z1, 0, none⟩), .pointer (some ⟨z3, 0, none⟩)], .func (.func 43) #[] #[.pointer (some ⟨z1, 0, none⟩), .pointer (some ⟨z3, 0, none⟩)], .func (.func 44) #[] #[.pointer (some ⟨z5, 0, none⟩), .pointer (some ⟨z1, 0, none⟩), .pointer (some ⟨z3, 0, none⟩)], .func (.func 38) #[.pointer (some ⟨p, 0, none⟩)] #[]] (fun j hj => by rcases (by omega : j = 0 ∨ j = 1 ∨ j = 2 ∨ j = 3 ∨ j = 4 ∨ j = 5) with rfl | rfl | rfl | rfl | rfl | rfl <;> rfl))
  have XB : Ext x6 (x6.alloc (.cells #[.func (.func 39) #[] #[.pointer (some ⟨z5, 0, none⟩)], .func (.func 40) #[.pointer (some ⟨p, 0, none⟩)] #[], .func (.func 41) #[] #[.pointer (some ⟨z1, 0, none⟩), .pointer (some ⟨z3, 0, none⟩)], .func (.func 43) #[] #[.pointer (some ⟨z1, 0, none⟩), .pointer (some ⟨z3, 0, none⟩)], .func (.func 44) #[] #[.pointer (some ⟨z5, 0, none⟩), .pointer (some ⟨z1, 0, none⟩), .pointer (some ⟨z3, 0, none⟩)], .func (.func 38) #[.pointer (some ⟨p, 0, none⟩)] #[]] 47)) := (Below.refl _ _).alloc (Nat.le_refl _) _
  have A1 := hideit (Hz1.out.carry XB)
  have A2 := hideit (Hz3.out.carry XB)
  have A3 := hideit (Hz5.out.carry XB)
  have L0 := hideit (hM.out.ext XB)
  have AE := hideit (Ext.trans hE.out (XB))
  have AB := hideit (hE.out.size)
  have D0 : Hid (z1 ≠ x6.heap.size) := Nat.ne_of_lt Hz1.out.2.2
  have D1 : Hid (z3 ≠ x6.heap.size) := Nat.ne_of_lt Hz3.out.2.2
  have D2 : Hid (z5 ≠ x6.heap.size) := Nat.ne_of_lt Hz5.out.2.2
  clear XB
  refine wpList_to rfl (.slice (some ⟨x6.heap.size, 0, none⟩) 6 6) (x6.alloc (.cells #[.func (.func 39) #[] #[.pointer (some ⟨z5, 0, none⟩)], .func (.func 40) #[.pointer (some ⟨p, 0, none⟩)] #[], .func (.func 41) #[] #[.pointer (some ⟨z1, 0, none⟩), .pointer (some ⟨z3, 0, none⟩)], .func (.func 43) #[] #[.pointer (some ⟨z1, 0, none⟩), .pointer (some ⟨z3, 0, none⟩)], .func (.func 44) #[] #[.pointer (some ⟨z5, 0, none⟩), .pointer (some ⟨z1, 0, none⟩), .pointer (some ⟨z3, 0, none⟩)], .func (.func 38) #[.pointer (some ⟨p, 0, none⟩)] #[]] 47)) (by simp [go_sem]) ?_
  simp only [Act.put, List.setIfInBounds_toArray, List.set_cons_zero, List.set_cons_succ]
  generalize x6.alloc (.cells #[.func (.func 39) #[] #[.pointer (some ⟨z5, 0, none⟩)], .func (.func 40) #[.pointer (some ⟨p, 0, none⟩)] #[], .func (.func 41) #[] #[.pointer (some ⟨z1, 0, none⟩), .pointer (some ⟨z3, 0, none⟩)], .func (.func 43) #[] #[.pointer (some ⟨z1, 0, none⟩), .pointer (some ⟨z3, 0, none⟩)], .func (.func 44) #[] #[.pointer (some ⟨z5, 0, none⟩), .pointer (some ⟨z1, 0, none⟩), .pointer (some ⟨z3, 0, none⟩)], .func (.func 38) #[.pointer (some ⟨p, 0, none⟩)] #[]] 47) = x11 at A0 A1 A2 A3 L0 AE ⊢
  obtain ⟨z10, ez10⟩ : ∃ b, b = x6.heap.size := ⟨_, rfl⟩
  have ABz10 : Hid (w.heap.size ≤ z10) := by rw [ez10]; exact AB.out
  clear AB
  rw [← ez10] at A0 D0 D1 D2 ⊢
  clear ez10
  have Hz10 := A0
  clear A0
  replace Hz1 := A1
  clear A1
  replace Hz3 := A2
  clear A2
  replace Hz5 := A3
  clear A3
  replace hM := L0
  clear L0
  replace hE := AE
  clear AE
  have Dz10_0 := D0
  clear D0
  have Dz10_1 := D1
  clear D1
  have Dz10_2 := D2
  clear D2
  refine wpList_call rfl (by simp [go_sem]) ((do_shut h M.sb M.pb ep r sl p (.slice (some ⟨z10, 0, none⟩) 6 6) x11 hM.out.st).mono ?_)
  rintro e yy ⟨rfl, hyy⟩
  refine ⟨_, rfl, ?_⟩
  simp only [Act.put, List.setIfInBounds_toArray, List.set_cons_zero, List.set_cons_succ]
  replace hyy := hyy.symm
  subst hyy
  refine xm [some (.int .i64 6)] (by kernel_rfl) (by simp [xr, go_sem]) ?_
  simp only [xw, p0, p1, p2, p3]
  go_wp2
  go_ret
  exact ⟨rfl, hE.out⟩
end Go.Proofs.Ytcipkfalnjgghaa
