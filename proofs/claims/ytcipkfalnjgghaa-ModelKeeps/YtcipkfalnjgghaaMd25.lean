/-
  Md24, Md25 in one.
-/
import Derived.Test.YtcipkfalnjgghaaMd13
import Derived.Test.YtcipkfalnjgghaaPl8
import Derived.Test.YtcipkfalnjgghaaMd22
import Derived.Test.YtcipkfalnjgghaaMd8
namespace Go.Proofs.Ytcipkfalnjgghaa
open Go.RowKit Go.BigFrame Go.Maps
set_option linter.unusedVariables false
theorem made_rowG (z : Value) (hz : z.cells = #[z]) (k : Nat) : (madeCells z.cells (k * 1)).toList = row k (fun _ => z) := by
  apply List.ext_getElem?
  intro i
  by_cases h : i < k
  · rw [row_get k _ i h, hz]
    simp [madeCells, h, Nat.mod_one]
  · rw [List.getElem?_eq_none (by simp [madeCells]; omega), List.getElem?_eq_none (by rw [row_length]; omega)]
/-- make([]T, n) of elements of one cell and one byte -/
theorem wpList_madeG {P : Program} {t e : TypeId} (w : World) {ops : Array Oper} {rest : List Oper} {o : Oper} {a : Act} {Q : Exit → Act → World → Prop} (z : Value) (hz : z.cells = #[z])
    (hu : P.underlying t = some (.slice e)) (hi : (P.info? e).map (fun i => (i.zero, i.size, i.bytes)) = some (some z, 1, 1)) (hg : o.guard = none) (l c : Operand) (hop : o.op = Op.makeSlice t l c)
    (n : Nat) (hl : a.eval l = .int .i64 (n : Int)) (hc : a.eval c = .int .i64 (n : Int)) (b : n ≤ 140737488355328)
    (hK : ∀ w', OwnB w.heap.size e (.slice (some ⟨w.heap.size, 0, none⟩) n n) n (fun _ => z) w' → Ext w w' → wpList P ops Q rest (a.put o.dst (.slice (some ⟨w.heap.size, 0, none⟩) n n)) w') :
    wpList P ops Q (o :: rest) a w := by
  obtain ⟨ti, hi1, hi2, hi3, hi4⟩ := info_parts hi
  refine wpList_make_full w hg l c t hop w.heap.size e ti z 1 hu hi1 hi2 hi3 .i64 .i64 (n : Int) (n : Int) n hl hc rfl rfl (by rw [hi4]; omega) (by unfold maxLen; omega) (Nat.le_refl _) ?_
  intro w1 hO hg1
  rw [made_rowG z hz n] at hO
  exact hK w1 hO ⟨hg1.os, hg1.tape, hg1.output, hg1.size, fun k hk => hg1.block k hk (by simp)⟩
theorem own_rowG {W X : World} {n : Nat} {e : TypeId} {g : Nat → Value} (hn : 0 < n) (h : OwnB W.heap.size e (.slice (some ⟨W.heap.size, 0, none⟩) n n) n g X) : RowAt W.heap.size n g X := by
  obtain ⟨b, cap, h1, _, _, _, hR⟩ := h.lies hn
  injection h1 with h1
  injection h1 with h1
  injection h1 with h1
  rw [h1]
  exact hR
theorem own_notB {base b n c : Nat} {e : TypeId} {g : Nat → Value} {W : World} (h : OwnB base e (.slice (some ⟨b, 0, none⟩) n c) n g W) (he : e ≠ 5) : ¬ IsB b W := by
  rintro ⟨cur', fz, h5⟩
  rcases h.2 with ⟨h1, _⟩ | ⟨b', cap, cur, h1, _, hg, _⟩
  · cases h1
  · injection h1 with h1
    injection h1 with h1
    injection h1 with h1
    rw [h1, hg] at h5
    injection h5 with h5
    injection h5 with _ h5 _
    exact he h5
/-- steps that are left -/
def lfF (s : MSt) : Int := if s.r.rk then stF s.h s.r.fr else 0
def tkB (s : MSt) (i j : Nat) : Bool := if j < i then (s.P (j : Int)).isSome else false
def tkF (s : MSt) (j : Nat) : Bool := (s.P (j : Int)).isSome
/-- the Info of a model, its list of slots in block z -/
def ifS (s : MSt) (z : Nat) : Nat → Value := ifV s.h s.sl (.slice (some ⟨z, 0, none⟩) s.h.sl.toNat s.h.sl.toNat) s.ep (lfF s) s.r.ct
theorem ifs_one (s : MSt) (z : Nat) (j : Nat) : (ifS s z j).oneCell' = true := ifv_one _ _ _ _ _ _ rfl j
theorem buildI (s : MSt) (z : Nat) (w : World) : (Instr.build 40 #[(0, .agg (row 24 (hdv s.h)).toArray), (1, .int .i64 s.sl), (2, .slice (some ⟨z, 0, none⟩) s.h.sl.toNat s.h.sl.toNat), (3, .int .i64 s.ep), (4, .int .i64 (lfF s)), (5, .int .u64 (s.r.ct.toNat : Int))]).run Try.prog w = .ok (.agg (row 29 (ifS s z)).toArray) w := by kernel_rfl
theorem steps_any {s : MSt} (hR : okR s.h s.r) (w : World) : Calls Try.prog 62 #[.agg (row 24 (hdv s.h)).toArray, .agg (row 35 (rtv s.r)).toArray] w fun e w' => e = .returned (.tuple #[.int .i64 (lfF s), .int .i64 0]) ∧ Ext w w' := by
  obtain ⟨h, S, P, ep, ⟨ct, rk, fr, tr⟩, op, sl⟩ := s
  cases rk with
  | false => exact steps_idle h ct fr tr w hR
  | true => exact steps_go h ct fr tr w hR
theorem tk_next (s : MSt) (i j : Nat) (hj : j < s.h.sl.toNat) : (if j = i then Value.bool (tkF s i) else (fun j => .bool (tkB s i j)) j) = .bool (tkB s (i + 1) j) := by
  unfold tkB tkF
  by_cases e : j = i
  · subst e
    rw [if_pos rfl, if_pos (by omega)]
  · rw [if_neg e]
    by_cases e2 : j < i
    · simp only [if_pos e2, if_pos (show j < i + 1 by omega)]
    · simp only [if_neg e2, if_neg (show ¬ j < i + 1 by omega)]
set_option maxRecDepth 20000 in
set_option maxHeartbeats 4000000 in
theorem info_any {F : Nat → Prop} {p C : Nat} {M : MLoc} {w : World} (s : MSt) (hM : MdM F p s C M w) (hR : okR s.h s.r) : Calls Try.prog 29 #[.pointer (some ⟨p, 0, none⟩)] w fun e w' => ∃ z, e = .returned (.tuple #[.agg (row 29 (ifS s z)).toArray, .int .i64 0]) ∧ w.heap.size ≤ z ∧ RowAt z s.h.sl.toNat (fun j => .bool (tkF s j)) w' ∧ Ext w w' := by
  have hS := hM.st
  have hlt := hideit hM.lt
  have hsl : 1 ≤ s.h.sl ∧ s.h.sl ≤ 8 := hM.okh.1.2.2.1
  have hsn : ((s.h.sl.toNat : Nat) : Int) = s.h.sl := by omega
  replace hS := hideit hS
  replace hM := hideit hM
  replace hR := hideit hR
  replace hsl := hideit hsl
  replace hsn := hideit hsn
  have hE := hideit (Ext.refl w)
  go_enter Try.func29, Try.ntmps29
  go_upto_region 0 with (fail)
  refine wp_region_lit ?_
  have A0 := hideit (RowAt.new w 29 (ifV zH 0 (.slice none 0 0) 0 0 0#64) 40)
  have XB : Ext w (w.alloc (.cells (row 29 (ifV zH 0 (.slice none 0 0) 0 0 0#64)).toArray 40)) := (Below.refl _ _).alloc (Nat.le_refl _) _
  have A1 := hideit (hS.out.carry XB)
  have L0 := hideit (hM.out.ext XB)
  have AE := hideit (Ext.trans hE.out (XB))
  have AB := hideit (hE.out.size)
  have D0 : Hid (p ≠ w.heap.size) := Nat.ne_of_lt hS.out.2.2
  clear XB
  refine wpList_to rfl (.pointer (some ⟨w.heap.size, 0, none⟩)) (w.alloc (.cells (row 29 (ifV zH 0 (.slice none 0 0) 0 0 0#64)).toArray 40)) (xalloc 40 _ rfl (zero40 _)) ?_
  simp only [Act.put, List.setIfInBounds_toArray, List.set_cons_zero, List.set_cons_succ]
  generalize w.alloc (.cells (row 29 (ifV zH 0 (.slice none 0 0) 0 0 0#64)).toArray 40) = x1 at A0 A1 L0 AE ⊢
  obtain ⟨q, eq⟩ : ∃ b, b = w.heap.size := ⟨_, rfl⟩
  have ABq : Hid (w.heap.size ≤ q) := by rw [eq]; exact AB.out
  clear AB
  rw [← eq] at A0 D0 ⊢
  clear eq
  have Hq := A0
  clear A0
  replace hS := A1
  clear A1
  replace hM := L0
  clear L0
  replace hE := AE
  clear AE
  have Dq_0 := D0
  clear D0
  refine xm [some (.int .i64 0)] (by kernel_rfl) (by simp [xr, go_sem]) ?_
  simp only [xw, p0, p1, p2, p3]
  go_upto_region 1 with (fail)
  replace hS := hideit hS.out.drew
  replace Hq := hideit Hq.out.drew
  replace hM := hideit (hM.out.ext (Ext.draw (Ext.refl x1)))
  replace hE := hideit (Ext.draw hE.out)
  refine wp_region_lad (fun X => Ext x1.drew X) [(false, 0), (false, 1), (false, 2), (false, 3), (false, 4), (false, 5), (false, 6), (false, 7), (true, 8), (false, 9), (false, 10), (false, 11), (false, 12), (false, 13)] (by kernel_rfl) (by kernel_rfl) (by decide +kernel) (by decide +kernel) (by decide +kernel) (by decide +kernel) (Ext.refl _) ?_
  refine wpX_f _ (.pointer (some ⟨p, 0, none⟩)) rfl rfl (fun X _ => by simp [go_sem]) ?_
  simp only [List.getElem_toArray, List.getElem_cons_zero, Act.put, List.setIfInBounds_toArray, List.set_cons_zero, List.set_cons_succ]
  refine wpX_f _ (.pointer (some ⟨p, 0, none⟩)) rfl rfl (fun X _ => by simp [go_sem]) ?_
  simp only [List.getElem_toArray, List.getElem_cons_zero, List.getElem_cons_succ, Act.put, List.setIfInBounds_toArray, List.set_cons_zero, List.set_cons_succ]
  refine wpX_f _ (.pointer (some ⟨p, 0, none⟩)) rfl rfl (fun X _ => by simp [go_sem]) ?_
  simp only [List.getElem_toArray, List.getElem_cons_zero, List.getElem_cons_succ, Act.put, List.setIfInBounds_toArray, List.set_cons_zero, List.set_cons_succ]
  refine wpX_f _ (.agg (row 24 (hdv s.h)).toArray) rfl rfl (fun X hX => xload 37 (.tmp 11) rfl p 0 24 (hdv s.h) rfl ((hS.out.carry hX).sub 0 24 (by decide) (hdv s.h) (fun j hj => md_hd _ _ _ _ _ _ _ j hj)) Try.underlying37 rfl infoH) ?_
  simp only [List.getElem_toArray, List.getElem_cons_zero, List.getElem_cons_succ, Act.put, List.setIfInBounds_toArray, List.set_cons_zero, List.set_cons_succ]
  refine wpX_f _ (.pointer (some ⟨p, 0, none⟩)) rfl rfl (fun X _ => by simp [go_sem]) ?_
  simp only [List.getElem_toArray, List.getElem_cons_zero, List.getElem_cons_succ, Act.put, List.setIfInBounds_toArray, List.set_cons_zero, List.set_cons_succ]
  refine wpX_f _ (.pointer (some ⟨p, 0, none⟩)) rfl rfl (fun X _ => by simp [go_sem]) ?_
  simp only [List.getElem_toArray, List.getElem_cons_zero, List.getElem_cons_succ, Act.put, List.setIfInBounds_toArray, List.set_cons_zero, List.set_cons_succ]
  refine wpX_f _ (.pointer (some ⟨p, 27, none⟩)) rfl rfl (fun X _ => by simp [go_sem]) ?_
  simp only [List.getElem_toArray, List.getElem_cons_zero, List.getElem_cons_succ, Act.put, List.setIfInBounds_toArray, List.set_cons_zero, List.set_cons_succ]
  refine wpX_f _ (.agg (row 35 (rtv s.r)).toArray) rfl rfl (fun X hX => xload 66 (.tmp 15) rfl p 27 35 (rtv s.r) rfl ((hS.out.carry hX).sub 27 35 (by decide) (rtv s.r) (fun j hj => md_rt _ _ _ _ _ _ _ j hj)) Try.underlying66 rfl infoR) ?_
  simp only [List.getElem_toArray, List.getElem_cons_zero, List.getElem_cons_succ, Act.put, List.setIfInBounds_toArray, List.set_cons_zero, List.set_cons_succ]
  refine wpX_call _ rfl rfl (by simp [go_sem]) ((steps_any hR.out x1.drew).mono ?_)
  rintro e y2 ⟨rfl, hX3⟩
  refine ⟨_, rfl, fun X => Ext y2 X, fun X hX => Ext.trans hX3 hX, Ext.refl _, ?_⟩
  simp only [List.getElem_toArray, List.getElem_cons_zero, List.getElem_cons_succ, Act.put, List.setIfInBounds_toArray, List.set_cons_zero, List.set_cons_succ]
  replace hS := hideit (hS.out.carry hX3)
  replace Hq := hideit (Hq.out.carry hX3)
  replace hM := hideit (hM.out.ext hX3)
  replace hE := hideit (Ext.trans hE.out (hX3))

  clear hX3
  refine wpX_f _ (.tuple #[.int .i64 (lfF s), .int .i64 0]) rfl rfl (fun X _ => by simp [go_sem]) ?_
  simp only [List.getElem_toArray, List.getElem_cons_zero, List.getElem_cons_succ, Act.put, List.setIfInBounds_toArray, List.set_cons_zero, List.set_cons_succ]
  refine wpX_f _ (.int .i64 (lfF s)) rfl rfl (fun X _ => by simp [go_sem]) ?_
  simp only [List.getElem_toArray, List.getElem_cons_zero, List.getElem_cons_succ, Act.put, List.setIfInBounds_toArray, List.set_cons_zero, List.set_cons_succ]
  refine wpX_f _ (.int .i64 0) rfl rfl (fun X _ => by simp [go_sem]) ?_
  simp only [List.getElem_toArray, List.getElem_cons_zero, List.getElem_cons_succ, Act.put, List.setIfInBounds_toArray, List.set_cons_zero, List.set_cons_succ]
  refine wpX_f _ (.int .i64 (lfF s)) rfl rfl (fun X _ => by simp [go_sem]) ?_
  simp only [List.getElem_toArray, List.getElem_cons_zero, List.getElem_cons_succ, Act.put, List.setIfInBounds_toArray, List.set_cons_zero, List.set_cons_succ]
  refine wpX_f _ (.int .i64 0) rfl rfl (fun X _ => by simp [go_sem]) ?_
  simp only [List.getElem_toArray, List.getElem_cons_zero, List.getElem_cons_succ, Act.put, List.setIfInBounds_toArray, List.set_cons_zero, List.set_cons_succ]
  refine wpX_nil ?_
  go_upto_region 2 with (fail)
  refine wp_region_lit ?_
  refine xm [some (.int .i64 0), some (.bool false)] (by kernel_rfl) (by simp [xr, go_sem]) ?_
  simp only [xw, p0, p1, p2, p3]
  go_upto_region 4 with (fail)
  refine wp_region_lit ?_
  have m4 : y2.cell? ⟨p, 2, none⟩ = some (.int .i64 (s.h.sl)) := hS.out.1 2 (by decide)
  refine xm [some (.pointer (some ⟨p, 0, none⟩)), some (.pointer (some ⟨p, 0, none⟩)), some (.pointer (some ⟨p, 0, none⟩)), some (.pointer (some ⟨p, 2, none⟩)), some (.int .i64 (s.h.sl))] (by kernel_rfl) (by simp [xr, go_sem, m4]) ?_
  simp only [xw, p0, p1, p2, p3]
  clear m4
  refine wpList_madeG y2 (.bool false) rfl Try.underlying38 (by kernel_rfl) rfl _ _ rfl s.h.sl.toNat (by simp [go_sem, hsn.out]) (by simp [go_sem, hsn.out]) (by have := hsl.out; omega) ?_
  intro x1 hO1 hX1
  have Hz := hideit ((own_rowG (by have := hsl.out; omega) hO1).congr (g' := fun j => .bool (tkB s 0 j)) fun j hj => by unfold tkB; rw [if_neg (Nat.not_lt_zero _)])
  have hzB0 := hideit (own_notB hO1 (by decide))
  replace hM := hideit (hM.out.ext hX1)
  have Dq : Hid (q ≠ y2.heap.size) := Nat.ne_of_lt Hq.out.2.2
  have Dp : Hid (p ≠ y2.heap.size) := Nat.ne_of_lt hS.out.2.2
  replace Hq := hideit (Hq.out.carry hX1)
  replace hS := hideit (hS.out.carry hX1)
  have hBz := hideit (Below.size hE.out)
  replace hE := hideit (Ext.trans hE.out hX1)
  simp only [Act.put, List.setIfInBounds_toArray, List.set_cons_zero, List.set_cons_succ]
  clear hO1 hX1
  obtain ⟨z, ez⟩ : ∃ b, b = y2.heap.size := ⟨_, rfl⟩
  have ABz : Hid (w.heap.size ≤ z) := by rw [ez]; exact hBz.out
  rw [← ez] at Hz Dq Dp hzB0 ⊢
  clear ez hBz
  refine xm [some (.slice (some ⟨z, 0, none⟩) s.h.sl.toNat s.h.sl.toNat)] (by kernel_rfl) (by simp [xr, go_sem]) ?_
  simp only [xw, p0, p1, p2, p3]
  go_upto_region 5 with (fail)
  refine wp_region_lit ?_
  refine xm [some (.slice (some ⟨z, 0, none⟩) s.h.sl.toNat s.h.sl.toNat), some (.int .i64 (s.h.sl)), some (.int .i64 0)] (by kernel_rfl) (by simp [xr, go_sem, hsn.out]) ?_
  simp only [xw, p0, p1, p2, p3]
  go_wp2
  have hzF : Hid (¬ F z) := fun e => by have := hlt.out z e; have := ABz.out; omega
  go_loopw [32] (fun t X => ∃ i : Nat, (i : Int) ≤ s.h.sl ∧ t = .int .i64 (i : Int) ∧ RowAt p 64 (mdV s.h M.sb M.pb s.ep s.r s.op s.sl) X ∧ RowAt q 29 (ifV zH 0 (.slice none 0 0) 0 0 0#64) X ∧ RowAt z s.h.sl.toNat (fun j => .bool (tkB s i j)) X ∧ MdM F p s C M X ∧ Ext w X ∧ ¬ IsB z X) (fun t _ => 9 - (intOf t).toNat)
  case atStart => exact ⟨0, by have := hsl.out; omega, rfl, hS.out, Hq.out, Hz.out, hM.out, hE.out, hzB0.out⟩
  case round =>
    obtain ⟨i, hin, rfl, rS, rq, rz, rM, rE, hzB⟩ := hrel
    clear hS Hq Hz hM hE hzB0
    replace rS := hideit rS
    replace rq := hideit rq
    replace rz := hideit rz
    replace rM := hideit rM
    replace rE := hideit rE
    replace hzB := hideit hzB
    by_cases hi2 : (i : Int) < s.h.sl
    · have hi := hideit hi2
      have hin : Hid (i < s.h.sl.toNat) := by have := hsl.out; show i < s.h.sl.toNat; omega
      have hix : Hid (¬ max s.h.sl 0 ≤ (i : Int)) := by have := hsl.out; have := hi.out; show ¬ max s.h.sl 0 ≤ (i : Int); omega
      have ek : IntKind.i64.wrap ((i : Int) + 1) = ((i + 1 : Nat) : Int) := by have := hsl.out; rw [IntKind.wrap_i64]; omega
      have hq2 := has_any s.h M.sb M.pb s.ep s.r s.op s.sl p C M.m (i : Int) wr rS.out rM.out.mpP (WalkArith.wf_i64 (by have := hsl.out; omega))
      rw [rM.out.hasP (i : Int)] at hq2
      replace hq2 : Hid (Calls Try.prog 31 #[.pointer (some ⟨p, 0, none⟩), .int .i64 (i : Int)] wr fun e w' => e = .returned (.bool (tkF s i)) ∧ w' = wr) := hq2
      clear hi2
      go_upto_region 6 with (fail)
      refine wp_region_lit ?_
      refine xm [some (.bool true)] (by kernel_rfl) (by simp [xr, go_sem, hi.out]) ?_
      simp only [xw, p0, p1, p2, p3]
      go_upto_region 7 with (fail)
      refine wp_region_lit ?_
      refine xm [some (.int .i64 (i : Int)), some (.int .i64 (i : Int))] (by kernel_rfl) (by simp [xr, go_sem]) ?_
      simp only [xw, p0, p1, p2, p3]
      go_upto_region 8 with (fail)
      refine wp_region_lit ?_
      refine xm [some (.slice (some ⟨z, 0, none⟩) s.h.sl.toNat s.h.sl.toNat), some (.int .i64 (i : Int)), some (.pointer (some ⟨p, 0, none⟩)), some (.int .i64 (i : Int))] (by kernel_rfl) (by simp [xr, go_sem]) ?_
      simp only [xw, p0, p1, p2, p3]
      refine wpList_call rfl (by simp [go_sem]) ((hq2.out).mono ?_)
      rintro e yy ⟨rfl, hyy⟩
      refine ⟨_, rfl, ?_⟩
      simp only [Act.put, List.setIfInBounds_toArray, List.set_cons_zero, List.set_cons_succ]
      replace hyy := hyy.symm
      subst hyy
      refine xm [some (.pointer (some ⟨z, i, none⟩))] (by kernel_rfl) (by simp [xr, go_sem, hix.out, addr0]) ?_
      simp only [xw, p0, p1, p2, p3]
      have M0 : wr.cell? ⟨z, i, none⟩ = some (.bool (tkB s i i)) := rz.out.1 i hin.out
      have M1 : wr.frozen? ⟨z, i, none⟩ = false := rz.out.2.1 i hin.out
      have KZ := hideit ((Keeps.refl (fun b => b = z) wr).setCell (p := ⟨z, i, none⟩) (.inl rfl) (.bool (tkF s i)))
      have N0 := hideit ((rz.out.set i (.bool (tkF s i))).congr (g' := fun j => .bool (tkB s (i + 1) j)) (tk_next s i))
      have NE := hideit (rE.out.setCell (p := ⟨z, i, none⟩) ABz.out (.bool (tkF s i)))
      have NS := hideit (rS.out.keep KZ.out Dp.out)
      have Nq := hideit (rq.out.keep KZ.out Dq.out)
      have NM := hideit (rM.out.keep KZ.out (fun b hb e => hzF.out (by rw [← e]; exact hb)) (fun b e => by rw [e]; exact hzB.out))
      have NB : Hid (¬ IsB z (wr.setCell ⟨z, i, none⟩ (.bool (tkF s i)))) := fun e => hzB.out (isB_setCell e)
      refine xst rfl (wr.setCell ⟨z, i, none⟩ (.bool (tkF s i))) (by simp [go_sem, M0, M1]) ?_
      simp only [Act.put]
      generalize wr.setCell ⟨z, i, none⟩ (.bool (tkF s i)) = w9 at N0 NE NS Nq NM NB KZ ⊢
      clear M0 M1 KZ
      go_upto_region 9 with (fail)
      refine wp_region_lit ?_
      refine xm [some (.int .i64 ((i + 1 : Nat) : Int)), some (.int .i64 ((i + 1 : Nat) : Int))] (by kernel_rfl) (by simp [xr, go_sem, ek]) ?_
      simp only [xw, p0, p1, p2, p3]
      go_wp2
      go_round
      case rel => exact ⟨i + 1, by have := hi.out; omega, rfl, NS.out, Nq.out, N0.out, NM.out, NE.out, NB.out⟩
      case measure => have := hi.out; have := hsl.out; simp [intOf]; omega
    · have hi := hideit hi2
      replace rz := hideit (rz.out.congr (g' := fun j => .bool (tkF s j)) fun j hj => by unfold tkB tkF; rw [if_pos (by have := hsl.out; omega)])
      clear hi2 hin
      go_upto_region 6 with (fail)
      refine wp_region_lit ?_
      refine xm [some (.bool false)] (by kernel_rfl) (by simp [xr, go_sem, hi.out]) ?_
      simp only [xw, p0, p1, p2, p3]
      clear rM
      go_upto_region 10 with (fail)
      replace rS := hideit rS.out.drew
      replace rq := hideit rq.out.drew
      replace rz := hideit rz.out.drew
      replace rE := hideit (Ext.draw rE.out)
      refine wp_region_ladz (fun X => Ext wr.drew X) [20] [(false, 0), (false, 1), (false, 2), (false, 3), (false, 4), (false, 5), (false, 6), (false, 7), (false, 8), (false, 9), (false, 10), (false, 11), (false, 12), (false, 13), (false, 14), (false, 15), (false, 16), (false, 17), (false, 18), (false, 19), (true, 20), (false, 21)] (by kernel_rfl) (by kernel_rfl) (by decide +kernel) (by decide +kernel) (by decide +kernel) (by decide +kernel) (Ext.refl _) ?_
      refine wpZ_f _ (.pointer (some ⟨p, 0, none⟩)) rfl rfl (fun X _ => by simp [go_sem]) ?_
      simp only [List.getElem_toArray, List.getElem_cons_zero, Act.put, List.setIfInBounds_toArray, List.set_cons_zero, List.set_cons_succ]
      refine wpZ_f _ (.pointer (some ⟨p, 0, none⟩)) rfl rfl (fun X _ => by simp [go_sem]) ?_
      simp only [List.getElem_toArray, List.getElem_cons_zero, List.getElem_cons_succ, Act.put, List.setIfInBounds_toArray, List.set_cons_zero, List.set_cons_succ]
      refine wpZ_f _ (.pointer (some ⟨p, 0, none⟩)) rfl rfl (fun X _ => by simp [go_sem]) ?_
      simp only [List.getElem_toArray, List.getElem_cons_zero, List.getElem_cons_succ, Act.put, List.setIfInBounds_toArray, List.set_cons_zero, List.set_cons_succ]
      refine wpZ_f _ (.agg (row 24 (hdv s.h)).toArray) rfl rfl (fun X hX => xload 37 (.tmp 44) rfl p 0 24 (hdv s.h) rfl ((rS.out.carry hX).sub 0 24 (by decide) (hdv s.h) (fun j hj => md_hd _ _ _ _ _ _ _ j hj)) Try.underlying37 rfl infoH) ?_
      simp only [List.getElem_toArray, List.getElem_cons_zero, List.getElem_cons_succ, Act.put, List.setIfInBounds_toArray, List.set_cons_zero, List.set_cons_succ]
      refine wpZ_f _ (.pointer (some ⟨p, 0, none⟩)) rfl rfl (fun X _ => by simp [go_sem]) ?_
      simp only [List.getElem_toArray, List.getElem_cons_zero, List.getElem_cons_succ, Act.put, List.setIfInBounds_toArray, List.set_cons_zero, List.set_cons_succ]
      refine wpZ_f _ (.pointer (some ⟨p, 0, none⟩)) rfl rfl (fun X _ => by simp [go_sem]) ?_
      simp only [List.getElem_toArray, List.getElem_cons_zero, List.getElem_cons_succ, Act.put, List.setIfInBounds_toArray, List.set_cons_zero, List.set_cons_succ]
      refine wpZ_f _ (.pointer (some ⟨p, 63, none⟩)) rfl rfl (fun X _ => by simp [go_sem]) ?_
      simp only [List.getElem_toArray, List.getElem_cons_zero, List.getElem_cons_succ, Act.put, List.setIfInBounds_toArray, List.set_cons_zero, List.set_cons_succ]
      refine wpZ_f _ (.int .i64 (s.sl)) rfl rfl (fun X hX => by have m5 : X.cell? ⟨p, 63, none⟩ = some (.int .i64 (s.sl)) := (rS.out.carry hX).1 63 (by decide); simp [go_sem, m5]) ?_
      simp only [List.getElem_toArray, List.getElem_cons_zero, List.getElem_cons_succ, Act.put, List.setIfInBounds_toArray, List.set_cons_zero, List.set_cons_succ]
      refine wpZ_f _ (.slice (some ⟨z, 0, none⟩) s.h.sl.toNat s.h.sl.toNat) rfl rfl (fun X _ => by simp [go_sem]) ?_
      simp only [List.getElem_toArray, List.getElem_cons_zero, List.getElem_cons_succ, Act.put, List.setIfInBounds_toArray, List.set_cons_zero, List.set_cons_succ]
      refine wpZ_f _ (.pointer (some ⟨p, 0, none⟩)) rfl rfl (fun X _ => by simp [go_sem]) ?_
      simp only [List.getElem_toArray, List.getElem_cons_zero, List.getElem_cons_succ, Act.put, List.setIfInBounds_toArray, List.set_cons_zero, List.set_cons_succ]
      refine wpZ_f _ (.pointer (some ⟨p, 0, none⟩)) rfl rfl (fun X _ => by simp [go_sem]) ?_
      simp only [List.getElem_toArray, List.getElem_cons_zero, List.getElem_cons_succ, Act.put, List.setIfInBounds_toArray, List.set_cons_zero, List.set_cons_succ]
      refine wpZ_f _ (.pointer (some ⟨p, 26, none⟩)) rfl rfl (fun X _ => by simp [go_sem]) ?_
      simp only [List.getElem_toArray, List.getElem_cons_zero, List.getElem_cons_succ, Act.put, List.setIfInBounds_toArray, List.set_cons_zero, List.set_cons_succ]
      refine wpZ_f _ (.int .i64 (s.ep)) rfl rfl (fun X hX => by have m6 : X.cell? ⟨p, 26, none⟩ = some (.int .i64 (s.ep)) := (rS.out.carry hX).1 26 (by decide); simp [go_sem, m6]) ?_
      simp only [List.getElem_toArray, List.getElem_cons_zero, List.getElem_cons_succ, Act.put, List.setIfInBounds_toArray, List.set_cons_zero, List.set_cons_succ]
      refine wpZ_f _ (.int .i64 (lfF s)) rfl rfl (fun X _ => by simp [go_sem]) ?_
      simp only [List.getElem_toArray, List.getElem_cons_zero, List.getElem_cons_succ, Act.put, List.setIfInBounds_toArray, List.set_cons_zero, List.set_cons_succ]
      refine wpZ_f _ (.pointer (some ⟨p, 0, none⟩)) rfl rfl (fun X _ => by simp [go_sem]) ?_
      simp only [List.getElem_toArray, List.getElem_cons_zero, List.getElem_cons_succ, Act.put, List.setIfInBounds_toArray, List.set_cons_zero, List.set_cons_succ]
      refine wpZ_f _ (.pointer (some ⟨p, 0, none⟩)) rfl rfl (fun X _ => by simp [go_sem]) ?_
      simp only [List.getElem_toArray, List.getElem_cons_zero, List.getElem_cons_succ, Act.put, List.setIfInBounds_toArray, List.set_cons_zero, List.set_cons_succ]
      refine wpZ_f _ (.pointer (some ⟨p, 27, none⟩)) rfl rfl (fun X _ => by simp [go_sem]) ?_
      simp only [List.getElem_toArray, List.getElem_cons_zero, List.getElem_cons_succ, Act.put, List.setIfInBounds_toArray, List.set_cons_zero, List.set_cons_succ]
      refine wpZ_f _ (.pointer (some ⟨p, 27, none⟩)) rfl rfl (fun X _ => by simp [go_sem]) ?_
      simp only [List.getElem_toArray, List.getElem_cons_zero, List.getElem_cons_succ, Act.put, List.setIfInBounds_toArray, List.set_cons_zero, List.set_cons_succ]
      refine wpZ_f _ (.int .u64 (s.r.ct.toNat : Int)) rfl rfl (fun X hX => by have m7 : X.cell? ⟨p, 27, none⟩ = some (.int .u64 (s.r.ct.toNat : Int)) := (rS.out.carry hX).1 27 (by decide); simp [go_sem, m7]) ?_
      simp only [List.getElem_toArray, List.getElem_cons_zero, List.getElem_cons_succ, Act.put, List.setIfInBounds_toArray, List.set_cons_zero, List.set_cons_succ]
      refine wpZ_f _ (.agg (row 29 (ifS s z)).toArray) rfl rfl (fun X hX => xbuild 40 [(0, .tmp 45), (1, .tmp 49), (2, .tmp 50), (3, .tmp 54), (4, .tmp 55), (5, .tmp 60)] rfl _ (buildI s z _)) ?_
      simp only [List.getElem_toArray, List.getElem_cons_zero, List.getElem_cons_succ, Act.put, List.setIfInBounds_toArray, List.set_cons_zero, List.set_cons_succ]
      have N0 := hideit (rq.out.cells (g' := ifS s z))
      have N1 := hideit (rz.out.cellsOther Dq.out (row 29 (ifS s z)) 0)
      have NE := hideit (below_setCells q ABq.out (row 29 (ifS s z)) 0 _ rE.out)
      refine wpZ_st _ (wr.drew.setCells q 0 (row 29 (ifS s z))) rfl rfl (xstore 40 (.tmp 2) (.tmp 61) rfl q 29 _ (ifS s z) rfl rfl rq.out infoI (fun j _ => ifs_one _ _ j)) (fun _ => True) (.inl (by simp)) trivial ?_
      simp only [List.getElem_toArray, List.getElem_cons_zero, List.getElem_cons_succ, Act.put]
      generalize wr.drew.setCells q 0 (row 29 (ifS s z)) = w9 at N0 N1 NE ⊢
      refine wpZ_f _ (.int .i64 0) rfl rfl (fun X _ => by simp [go_sem]) ?_
      simp only [List.getElem_toArray, List.getElem_cons_zero, List.getElem_cons_succ, Act.put, List.setIfInBounds_toArray, List.set_cons_zero, List.set_cons_succ]
      refine wpZ_nil ?_
      go_wp2
      refine bodyPost_ret (ret_row2 rfl rfl N0.out Try.underlying40 rfl infoI) rfl ?_
      exact ⟨z, rfl, ABz.out, N1.out, NE.out⟩
end Go.Proofs.Ytcipkfalnjgghaa
namespace Go.Proofs.Ytcipkfalnjgghaa
open Go.RowKit Go.BigFrame Go.Maps
set_option linter.unusedVariables false
set_option maxRecDepth 20000 in
set_option maxHeartbeats 4000000 in
theorem t61_any {F : Nat → Prop} {p C : Nat} {M : MLoc} {w : World} (s : MSt) (hM : MdM F p s C M w) (hR : okR s.h s.r) (cs d : Nat) (hc : RowAt cs 1 (fun _ => .func (.func 29) #[.pointer (some ⟨p, 0, none⟩)] #[]) w) (hd : RowAt d 29 (ifV zH 0 (.slice none 0 0) 0 0 0#64) w) (ncs : cs ≠ d) : Calls Try.prog 61 #[.pointer (some ⟨cs, 0, none⟩), .pointer (some ⟨d, 0, none⟩)] w fun e w' => ∃ z, e = .returned (.int .i64 0) ∧ w.heap.size ≤ z ∧ RowAt z s.h.sl.toNat (fun j => .bool (tkF s j)) w' ∧ Keeps (fun i => i = d) w w' ∧ RowAt d 29 (ifS s z) w' := by
  have hdl := hideit hd.2.2
  replace hM := hideit hM
  replace hR := hideit hR
  replace hc := hideit hc
  replace hd := hideit hd
  replace ncs := hideit ncs
  have hE := hideit (Keeps.refl (fun i => i = d) w)
  go_enter Try.func61, Try.ntmps61
  go_upto_region 1 with (fail)
  refine wp_region_lit ?_
  have m1 : w.cell? ⟨cs, 0, none⟩ = some (.func (.func 29) #[.pointer (some ⟨p, 0, none⟩)] #[]) := hc.out.1 0 (by decide)
  refine xm [some (.func (.func 29) #[.pointer (some ⟨p, 0, none⟩)] #[])] (by kernel_rfl) (by simp [xr, go_sem, m1]) ?_
  simp only [xw, p0, p1, p2, p3]
  clear m1
  refine wpList_call rfl (by simp [go_sem]) ((info_any s hM.out hR.out).mono ?_)
  rintro e y1 ⟨z, rfl, hz1, hz2, hX1⟩
  refine ⟨_, rfl, ?_⟩
  simp only [Act.put, List.setIfInBounds_toArray, List.set_cons_zero, List.set_cons_succ]
  replace hc := hideit (hc.out.carry hX1)
  replace hd := hideit (hd.out.carry hX1)
  replace hM := hideit (hM.out.ext hX1)
  replace hE := hideit (Keeps.ext hE.out (hX1))
  have hdz : Hid (d ≠ z) := by have := hdl.out; have := hz1; show d ≠ z; omega
  replace hz1 := hideit hz1
  replace hz2 := hideit hz2
  clear hX1 hM hc
  refine xm [some (.tuple #[.agg (row 29 (ifS s z)).toArray, .int .i64 0]), some (.agg (row 29 (ifS s z)).toArray), some (.int .i64 0)] (by kernel_rfl) (by simp [xr, go_sem]) ?_
  simp only [xw, p0, p1, p2, p3]
  have N0 := hideit (hd.out.cells (g' := ifS s z))
  have N1 := hideit (hz2.out.cellsOther (hdz.out) (row 29 (ifS s z)) 0)
  have NE := hideit (Keeps.cells (F := (fun i => i = d)) d (.inl rfl) (row 29 (ifS s z)) 0 _ hE.out)
  refine xst rfl (y1.setCells d 0 (row 29 (ifS s z))) (xstore 40 (.tmp 1) (.tmp 6) rfl d 29 _ (ifS s z) rfl rfl hd.out infoI (fun j _ => ifs_one _ _ j)) ?_
  simp only [Act.put]
  generalize y1.setCells d 0 (row 29 (ifS s z)) = x2 at N0 N1 NE ⊢
  replace hd := N0
  replace hz2 := N1
  replace hE := NE
  clear N0 N1 NE
  refine xm [some (.int .i64 0)] (by kernel_rfl) (by simp [xr, go_sem]) ?_
  simp only [xw, p0, p1, p2, p3]
  go_upto_region 2 with (fail)
  refine wp_region_lit ?_
  refine xm [some (.int .i64 0), some (.int .i64 0)] (by kernel_rfl) (by simp [xr, go_sem]) ?_
  simp only [xw, p0, p1, p2, p3]
  go_wp2
  go_ret
  exact ⟨z, rfl, hz1.out, hz2.out, hE.out, hd.out⟩
theorem if_do {F : Nat → Prop} {p C : Nat} {M : MLoc} {w : World} (s : MSt) (hM : MdM F p s C M w) (hop : s.op = true) (hR : okR s.h s.r) (cs d bs : Nat) (hc : RowAt cs 1 (fun _ => .func (.func 29) #[.pointer (some ⟨p, 0, none⟩)] #[]) w) (hd : RowAt d 29 (ifV zH 0 (.slice none 0 0) 0 0 0#64) w) (hB : RowAt bs 1 (fnV (fun i => [61].getD i 0) (fun i => [#[]].getD i #[]) (fun i => [#[.pointer (some ⟨cs, 0, none⟩), .pointer (some ⟨d, 0, none⟩)]].getD i #[])) w) (ncs : cs ≠ d) (nbs : bs ≠ d) :
    Calls Try.prog 33 #[.pointer (some ⟨p, 0, none⟩), .slice (some ⟨bs, 0, none⟩) 1 1] w fun e w' => ∃ c : Int, e = .returned (.int .i64 c) ∧ c = 0 ∧ ∃ z, w.heap.size ≤ z ∧ RowAt z s.h.sl.toNat (fun j => .bool (tkF s j)) w' ∧ Keeps (fun i => i = d) w w' ∧ RowAt d 29 (ifS s z) w' := by
  have hS := hM.st
  rw [hop] at hS
  refine do_one s.h M.sb M.pb s.ep s.r s.sl p bs (fun i => [61].getD i 0) (fun i => [#[]].getD i #[]) (fun i => [#[.pointer (some ⟨cs, 0, none⟩), .pointer (some ⟨d, 0, none⟩)]].getD i #[]) w hS hB (fun c W => c = 0 ∧ ∃ z, w.heap.size ≤ z ∧ RowAt z s.h.sl.toNat (fun j => .bool (tkF s j)) W ∧ Keeps (fun i => i = d) w W ∧ RowAt d 29 (ifS s z) W) (fun W ⟨_, z, _, _, hK, _⟩ => hB.keep hK nbs) (fun args X => by simp [go_sem]) ?_
  exact (t61_any s hM hR cs d hc hd ncs).mono fun e w' ⟨z, h1, h2⟩ => ⟨0, h1, rfl, z, h2⟩
set_option maxRecDepth 20000 in
set_option maxHeartbeats 4000000 in
theorem ansi_open {F : Nat → Prop} {p C : Nat} {M : MLoc} {w : World} (s : MSt) (hM : MdM F p s C M w) (hop : s.op = true) (hR : okR s.h s.r) : Calls Try.prog 28 #[.pointer (some ⟨p, 0, none⟩), .func (.func 29) #[.pointer (some ⟨p, 0, none⟩)] #[]] w fun e w' => ∃ z, e = .returned (.tuple #[.agg (row 29 (ifS s z)).toArray, .int .i64 0]) ∧ w.heap.size ≤ z ∧ RowAt z s.h.sl.toNat (fun j => .bool (tkF s j)) w' ∧ Ext w w' := by
  replace hM := hideit hM
  replace hop := hideit hop
  replace hR := hideit hR
  have hE := hideit (Ext.refl w)
  go_enter Try.func28, Try.ntmps28
  go_upto_region 0 with (fail)
  refine wp_region_lit ?_
  have A0 := hideit (row1_new w (.func (.func 29) #[.pointer (some ⟨p, 0, none⟩)] #[]) 42)
  have XB : Ext w (w.alloc (.cells #[.func (.func 29) #[.pointer (some ⟨p, 0, none⟩)] #[]] 42)) := (Below.refl _ _).alloc (Nat.le_refl _) _
  have L0 := hideit (hM.out.ext XB)
  have AE := hideit (Ext.trans hE.out (XB))
  have AB := hideit (hE.out.size)
  clear XB
  refine wpList_to rfl (.pointer (some ⟨w.heap.size, 0, none⟩)) (w.alloc (.cells #[.func (.func 29) #[.pointer (some ⟨p, 0, none⟩)] #[]] 42)) (by simp [go_sem]) ?_
  simp only [Act.put, List.setIfInBounds_toArray, List.set_cons_zero, List.set_cons_succ]
  generalize w.alloc (.cells #[.func (.func 29) #[.pointer (some ⟨p, 0, none⟩)] #[]] 42) = x2 at A0 L0 AE ⊢
  obtain ⟨z1, ez1⟩ : ∃ b, b = w.heap.size := ⟨_, rfl⟩
  have ABz1 : Hid (w.heap.size ≤ z1) := by rw [ez1]; exact AB.out
  clear AB
  rw [← ez1] at A0  ⊢
  clear ez1
  have Hz1 := A0
  clear A0
  replace hM := L0
  clear L0
  replace hE := AE
  clear AE
  have A0 := hideit (RowAt.new x2 29 (ifV zH 0 (.slice none 0 0) 0 0 0#64) 40)
  have XB : Ext x2 (x2.alloc (.cells (row 29 (ifV zH 0 (.slice none 0 0) 0 0 0#64)).toArray 40)) := (Below.refl _ _).alloc (Nat.le_refl _) _
  have A1 := hideit (Hz1.out.carry XB)
  have L0 := hideit (hM.out.ext XB)
  have AE := hideit (Ext.trans hE.out (XB))
  have AB := hideit (hE.out.size)
  have D0 : Hid (z1 ≠ x2.heap.size) := Nat.ne_of_lt Hz1.out.2.2
  clear XB
  refine wpList_to rfl (.pointer (some ⟨x2.heap.size, 0, none⟩)) (x2.alloc (.cells (row 29 (ifV zH 0 (.slice none 0 0) 0 0 0#64)).toArray 40)) (xalloc 40 _ rfl (zero40 _)) ?_
  simp only [Act.put, List.setIfInBounds_toArray, List.set_cons_zero, List.set_cons_succ]
  generalize x2.alloc (.cells (row 29 (ifV zH 0 (.slice none 0 0) 0 0 0#64)).toArray 40) = x3 at A0 A1 L0 AE ⊢
  obtain ⟨r4, er4⟩ : ∃ b, b = x2.heap.size := ⟨_, rfl⟩
  have ABr4 : Hid (w.heap.size ≤ r4) := by rw [er4]; exact AB.out
  clear AB
  rw [← er4] at A0 D0 ⊢
  clear er4
  have Hr4 := A0
  clear A0
  replace Hz1 := A1
  clear A1
  replace hM := L0
  clear L0
  replace hE := AE
  clear AE
  have Dr4_0 := D0
  clear D0
  refine xm [some (.int .i64 0)] (by kernel_rfl) (by simp [xr, go_sem]) ?_
  simp only [xw, p0, p1, p2, p3]
  go_upto_region 1 with (fail)
  refine wp_region_lit ?_
  have A0 := hideit (RowAt.new x3 29 (ifV zH 0 (.slice none 0 0) 0 0 0#64) 40)
  have XB : Ext x3 (x3.alloc (.cells (row 29 (ifV zH 0 (.slice none 0 0) 0 0 0#64)).toArray 40)) := (Below.refl _ _).alloc (Nat.le_refl _) _
  have A1 := hideit (Hz1.out.carry XB)
  have A2 := hideit (Hr4.out.carry XB)
  have L0 := hideit (hM.out.ext XB)
  have AE := hideit (Ext.trans hE.out (XB))
  have AB := hideit (hE.out.size)
  have D0 : Hid (z1 ≠ x3.heap.size) := Nat.ne_of_lt Hz1.out.2.2
  have D1 : Hid (r4 ≠ x3.heap.size) := Nat.ne_of_lt Hr4.out.2.2
  clear XB
  refine wpList_to rfl (.pointer (some ⟨x3.heap.size, 0, none⟩)) (x3.alloc (.cells (row 29 (ifV zH 0 (.slice none 0 0) 0 0 0#64)).toArray 40)) (xalloc 40 _ rfl (zero40 _)) ?_
  simp only [Act.put, List.setIfInBounds_toArray, List.set_cons_zero, List.set_cons_succ]
  generalize x3.alloc (.cells (row 29 (ifV zH 0 (.slice none 0 0) 0 0 0#64)).toArray 40) = x4 at A0 A1 A2 L0 AE ⊢
  obtain ⟨d, ed⟩ : ∃ b, b = x3.heap.size := ⟨_, rfl⟩
  have ABd : Hid (w.heap.size ≤ d) := by rw [ed]; exact AB.out
  clear AB
  rw [← ed] at A0 D0 D1 ⊢
  clear ed
  have Hd := A0
  clear A0
  replace Hz1 := A1
  clear A1
  replace Hr4 := A2
  clear A2
  replace hM := L0
  clear L0
  replace hE := AE
  clear AE
  have Dd_0 := D0
  clear D0
  have Dd_1 := D1
  clear D1
  go_upto_region 2 with (fail)
  refine wp_region_lit ?_
  refine xm [some (.pointer (some ⟨p, 0, none⟩)), some (.func (.func 61) #[] #[.pointer (some ⟨z1, 0, none⟩), .pointer (some ⟨d, 0, none⟩)])] (by kernel_rfl) (by simp [xr, go_sem]) ?_
  simp only [xw, p0, p1, p2, p3]
  have A0 := hideit (RowAt.newOf x4 1 (fnV (fun i => [61].getD i 0) (fun i => [#[]].getD i #[]) (fun i => [#[.pointer (some ⟨z1, 0, none⟩), .pointer (some ⟨d, 0, none⟩)]].getD i #[])) 47 #[.func (.func 61) #[] #[.pointer (some ⟨z1, 0, none⟩), .pointer (some ⟨d, 0, none⟩)]] (fun j hj => by rcases (by omega : j = 0) with rfl <;> rfl))
  have XB : Ext x4 (x4.alloc (.cells #[.func (.func 61) #[] #[.pointer (some ⟨z1, 0, none⟩), .pointer (some ⟨d, 0, none⟩)]] 47)) := (Below.refl _ _).alloc (Nat.le_refl _) _
  have A1 := hideit (Hz1.out.carry XB)
  have A2 := hideit (Hr4.out.carry XB)
  have A3 := hideit (Hd.out.carry XB)
  have L0 := hideit (hM.out.ext XB)
  have AE := hideit (Ext.trans hE.out (XB))
  have AB := hideit (hE.out.size)
  have D0 : Hid (z1 ≠ x4.heap.size) := Nat.ne_of_lt Hz1.out.2.2
  have D1 : Hid (r4 ≠ x4.heap.size) := Nat.ne_of_lt Hr4.out.2.2
  have D2 : Hid (d ≠ x4.heap.size) := Nat.ne_of_lt Hd.out.2.2
  clear XB
  refine wpList_to rfl (.slice (some ⟨x4.heap.size, 0, none⟩) 1 1) (x4.alloc (.cells #[.func (.func 61) #[] #[.pointer (some ⟨z1, 0, none⟩), .pointer (some ⟨d, 0, none⟩)]] 47)) (by simp [go_sem]) ?_
  simp only [Act.put, List.setIfInBounds_toArray, List.set_cons_zero, List.set_cons_succ]
  generalize x4.alloc (.cells #[.func (.func 61) #[] #[.pointer (some ⟨z1, 0, none⟩), .pointer (some ⟨d, 0, none⟩)]] 47) = x6 at A0 A1 A2 A3 L0 AE ⊢
  obtain ⟨z5, ez5⟩ : ∃ b, b = x4.heap.size := ⟨_, rfl⟩
  have ABz5 : Hid (w.heap.size ≤ z5) := by rw [ez5]; exact AB.out
  clear AB
  rw [← ez5] at A0 D0 D1 D2 ⊢
  clear ez5
  have Hz5 := A0
  clear A0
  replace Hz1 := A1
  clear A1
  replace Hr4 := A2
  clear A2
  replace Hd := A3
  clear A3
  replace hM := L0
  clear L0
  replace hE := AE
  clear AE
  have Dz5_0 := D0
  clear D0
  have Dz5_1 := D1
  clear D1
  have Dz5_2 := D2
  clear D2
  have kd := hideit (if_do s hM.out hop.out hR.out z1 d z5 Hz1.out Hd.out Hz5.out (Dd_0.out) (Ne.symm (Dz5_2.out)))
  have hBy := hideit (Below.size hE.out)
  have hrl := hideit Hr4.out.2.2
  refine wpList_call rfl (by simp [go_sem]) ((kd.out).mono ?_)
  rintro e y9 ⟨c, rfl, rfl, z, hz1, hz2, hK, hd⟩
  refine ⟨_, rfl, ?_⟩
  simp only [Act.put, List.setIfInBounds_toArray, List.set_cons_zero, List.set_cons_succ]
  have hr4 := hideit (Hr4.out.keep hK (Dd_1.out))
  have hrz : Hid (r4 ≠ z) := by have := hrl.out; show r4 ≠ z; omega
  replace hz1 : Hid (w.heap.size ≤ z) := by have := hBy.out; show w.heap.size ≤ z; omega
  replace hz2 := hideit hz2
  replace hd := hideit hd
  replace hE := hideit (Ext.keeps hE.out hK fun i e => by rw [e]; exact ABd.out)
  clear kd hM hK Hr4 Hz1 Hz5 Hd
  refine xm [some (.int .i64 0)] (by kernel_rfl) (by simp [xr, go_sem]) ?_
  simp only [xw, p0, p1, p2, p3]
  go_upto_region 3 with (fail)
  refine wp_region_lit ?_
  refine wpList_run rfl (.agg (row 29 (ifS s z)).toArray) (xload 40 (.tmp 6) rfl d 0 29 _ rfl hd.out.range Try.underlying40 rfl infoI) ?_
  simp only [Act.put, List.setIfInBounds_toArray, List.set_cons_zero, List.set_cons_succ]
  refine xm [some (.int .i64 0)] (by kernel_rfl) (by simp [xr, go_sem]) ?_
  simp only [xw, p0, p1, p2, p3]
  have N0 := hideit (hr4.out.cells (g' := ifS s z))
  have N1 := hideit (hd.out.cellsOther (Dd_1.out) (row 29 (ifS s z)) 0)
  have N2 := hideit (hz2.out.cellsOther (hrz.out) (row 29 (ifS s z)) 0)
  have NE := hideit (below_setCells r4 (ABr4.out) (row 29 (ifS s z)) 0 _ hE.out)
  refine xst rfl (y9.setCells r4 0 (row 29 (ifS s z))) (xstore 40 (.tmp 4) (.tmp 12) rfl r4 29 _ (ifS s z) rfl rfl hr4.out infoI (fun j _ => ifs_one _ _ j)) ?_
  simp only [Act.put]
  generalize y9.setCells r4 0 (row 29 (ifS s z)) = x7 at N0 N1 N2 NE ⊢
  replace hr4 := N0
  replace hd := N1
  replace hz2 := N2
  replace hE := NE
  clear N0 N1 N2 NE
  refine xm [some (.int .i64 0)] (by kernel_rfl) (by simp [xr, go_sem]) ?_
  simp only [xw, p0, p1, p2, p3]
  go_wp2
  refine bodyPost_ret (ret_row2 rfl rfl hr4.out Try.underlying40 rfl infoI) rfl ?_
  exact ⟨z, rfl, hz1.out, hz2.out, hE.out⟩
set_option maxRecDepth 20000 in
set_option maxHeartbeats 4000000 in
theorem ansi_shut {F : Nat → Prop} {p C : Nat} {M : MLoc} {w : World} (s : MSt) (hM : MdM F p s C M w) (hop : s.op = false) : Calls Try.prog 28 #[.pointer (some ⟨p, 0, none⟩), .func (.func 29) #[.pointer (some ⟨p, 0, none⟩)] #[]] w fun e w' => e = .returned (.tuple #[.agg (row 29 (ifV zH 0 (.slice none 0 0) 0 0 0#64)).toArray, .int .i64 6]) ∧ Ext w w' := by
  replace hM := hideit hM
  replace hop := hideit hop
  have hE := hideit (Ext.refl w)
  go_enter Try.func28, Try.ntmps28
  go_upto_region 0 with (fail)
  refine wp_region_lit ?_
  have A0 := hideit (row1_new w (.func (.func 29) #[.pointer (some ⟨p, 0, none⟩)] #[]) 42)
  have XB : Ext w (w.alloc (.cells #[.func (.func 29) #[.pointer (some ⟨p, 0, none⟩)] #[]] 42)) := (Below.refl _ _).alloc (Nat.le_refl _) _
  have L0 := hideit (hM.out.ext XB)
  have AE := hideit (Ext.trans hE.out (XB))
  have AB := hideit (hE.out.size)
  clear XB
  refine wpList_to rfl (.pointer (some ⟨w.heap.size, 0, none⟩)) (w.alloc (.cells #[.func (.func 29) #[.pointer (some ⟨p, 0, none⟩)] #[]] 42)) (by simp [go_sem]) ?_
  simp only [Act.put, List.setIfInBounds_toArray, List.set_cons_zero, List.set_cons_succ]
  generalize w.alloc (.cells #[.func (.func 29) #[.pointer (some ⟨p, 0, none⟩)] #[]] 42) = x2 at A0 L0 AE ⊢
  obtain ⟨z1, ez1⟩ : ∃ b, b = w.heap.size := ⟨_, rfl⟩
  have ABz1 : Hid (w.heap.size ≤ z1) := by rw [ez1]; exact AB.out
  clear AB
  rw [← ez1] at A0  ⊢
  clear ez1
  have Hz1 := A0
  clear A0
  replace hM := L0
  clear L0
  replace hE := AE
  clear AE
  have A0 := hideit (RowAt.new x2 29 (ifV zH 0 (.slice none 0 0) 0 0 0#64) 40)
  have XB : Ext x2 (x2.alloc (.cells (row 29 (ifV zH 0 (.slice none 0 0) 0 0 0#64)).toArray 40)) := (Below.refl _ _).alloc (Nat.le_refl _) _
  have A1 := hideit (Hz1.out.carry XB)
  have L0 := hideit (hM.out.ext XB)
  have AE := hideit (Ext.trans hE.out (XB))
  have AB := hideit (hE.out.size)
  have D0 : Hid (z1 ≠ x2.heap.size) := Nat.ne_of_lt Hz1.out.2.2
  clear XB
  refine wpList_to rfl (.pointer (some ⟨x2.heap.size, 0, none⟩)) (x2.alloc (.cells (row 29 (ifV zH 0 (.slice none 0 0) 0 0 0#64)).toArray 40)) (xalloc 40 _ rfl (zero40 _)) ?_
  simp only [Act.put, List.setIfInBounds_toArray, List.set_cons_zero, List.set_cons_succ]
  generalize x2.alloc (.cells (row 29 (ifV zH 0 (.slice none 0 0) 0 0 0#64)).toArray 40) = x3 at A0 A1 L0 AE ⊢
  obtain ⟨r4, er4⟩ : ∃ b, b = x2.heap.size := ⟨_, rfl⟩
  have ABr4 : Hid (w.heap.size ≤ r4) := by rw [er4]; exact AB.out
  clear AB
  rw [← er4] at A0 D0 ⊢
  clear er4
  have Hr4 := A0
  clear A0
  replace Hz1 := A1
  clear A1
  replace hM := L0
  clear L0
  replace hE := AE
  clear AE
  have Dr4_0 := D0
  clear D0
  refine xm [some (.int .i64 0)] (by kernel_rfl) (by simp [xr, go_sem]) ?_
  simp only [xw, p0, p1, p2, p3]
  go_upto_region 1 with (fail)
  refine wp_region_lit ?_
  have A0 := hideit (RowAt.new x3 29 (ifV zH 0 (.slice none 0 0) 0 0 0#64) 40)
  have XB : Ext x3 (x3.alloc (.cells (row 29 (ifV zH 0 (.slice none 0 0) 0 0 0#64)).toArray 40)) := (Below.refl _ _).alloc (Nat.le_refl _) _
  have A1 := hideit (Hz1.out.carry XB)
  have A2 := hideit (Hr4.out.carry XB)
  have L0 := hideit (hM.out.ext XB)
  have AE := hideit (Ext.trans hE.out (XB))
  have AB := hideit (hE.out.size)
  have D0 : Hid (z1 ≠ x3.heap.size) := Nat.ne_of_lt Hz1.out.2.2
  have D1 : Hid (r4 ≠ x3.heap.size) := Nat.ne_of_lt Hr4.out.2.2
  clear XB
  refine wpList_to rfl (.pointer (some ⟨x3.heap.size, 0, none⟩)) (x3.alloc (.cells (row 29 (ifV zH 0 (.slice none 0 0) 0 0 0#64)).toArray 40)) (xalloc 40 _ rfl (zero40 _)) ?_
  simp only [Act.put, List.setIfInBounds_toArray, List.set_cons_zero, List.set_cons_succ]
  generalize x3.alloc (.cells (row 29 (ifV zH 0 (.slice none 0 0) 0 0 0#64)).toArray 40) = x4 at A0 A1 A2 L0 AE ⊢
  obtain ⟨d, ed⟩ : ∃ b, b = x3.heap.size := ⟨_, rfl⟩
  have ABd : Hid (w.heap.size ≤ d) := by rw [ed]; exact AB.out
  clear AB
  rw [← ed] at A0 D0 D1 ⊢
  clear ed
  have Hd := A0
  clear A0
  replace Hz1 := A1
  clear A1
  replace Hr4 := A2
  clear A2
  replace hM := L0
  clear L0
  replace hE := AE
  clear AE
  have Dd_0 := D0
  clear D0
  have Dd_1 := D1
  clear D1
  go_upto_region 2 with (fail)
  refine wp_region_lit ?_
  refine xm [some (.pointer (some ⟨p, 0, none⟩)), some (.func (.func 61) #[] #[.pointer (some ⟨z1, 0, none⟩), .pointer (some ⟨d, 0, none⟩)])] (by kernel_rfl) (by simp [xr, go_sem]) ?_
  simp only [xw, p0, p1, p2, p3]
  have A0 := hideit (RowAt.newOf x4 1 (fnV (fun i => [61].getD i 0) (fun i => [#[]].getD i #[]) (fun i => [#[.pointer (some ⟨z1, 0, none⟩), .pointer (some ⟨d, 0, none⟩)]].getD i #[])) 47 #[.func (.func 61) #[] #[.pointer (some ⟨z1, 0, none⟩), .pointer (some ⟨d, 0, none⟩)]] (fun j hj => by rcases (by omega : j = 0) with rfl <;> rfl))
  have XB : Ext x4 (x4.alloc (.cells #[.func (.func 61) #[] #[.pointer (some ⟨z1, 0, none⟩), .pointer (some ⟨d, 0, none⟩)]] 47)) := (Below.refl _ _).alloc (Nat.le_refl _) _
  have A1 := hideit (Hz1.out.carry XB)
  have A2 := hideit (Hr4.out.carry XB)
  have A3 := hideit (Hd.out.carry XB)
  have L0 := hideit (hM.out.ext XB)
  have AE := hideit (Ext.trans hE.out (XB))
  have AB := hideit (hE.out.size)
  have D0 : Hid (z1 ≠ x4.heap.size) := Nat.ne_of_lt Hz1.out.2.2
  have D1 : Hid (r4 ≠ x4.heap.size) := Nat.ne_of_lt Hr4.out.2.2
  have D2 : Hid (d ≠ x4.heap.size) := Nat.ne_of_lt Hd.out.2.2
  clear XB
  refine wpList_to rfl (.slice (some ⟨x4.heap.size, 0, none⟩) 1 1) (x4.alloc (.cells #[.func (.func 61) #[] #[.pointer (some ⟨z1, 0, none⟩), .pointer (some ⟨d, 0, none⟩)]] 47)) (by simp [go_sem]) ?_
  simp only [Act.put, List.setIfInBounds_toArray, List.set_cons_zero, List.set_cons_succ]
  generalize x4.alloc (.cells #[.func (.func 61) #[] #[.pointer (some ⟨z1, 0, none⟩), .pointer (some ⟨d, 0, none⟩)]] 47) = x6 at A0 A1 A2 A3 L0 AE ⊢
  obtain ⟨z5, ez5⟩ : ∃ b, b = x4.heap.size := ⟨_, rfl⟩
  have ABz5 : Hid (w.heap.size ≤ z5) := by rw [ez5]; exact AB.out
  clear AB
  rw [← ez5] at A0 D0 D1 D2 ⊢
  clear ez5
  have Hz5 := A0
  clear A0
  replace Hz1 := A1
  clear A1
  replace Hr4 := A2
  clear A2
  replace Hd := A3
  clear A3
  replace hM := L0
  clear L0
  replace hE := AE
  clear AE
  have Dz5_0 := D0
  clear D0
  have Dz5_1 := D1
  clear D1
  have Dz5_2 := D2
  clear D2
  refine wpList_call rfl (by simp [go_sem]) ((do_shut s.h M.sb M.pb s.ep s.r s.sl p (.slice (some ⟨z5, 0, none⟩) 1 1) x6 (hop.out ▸ hM.out.st)).mono ?_)
  rintro e yy ⟨rfl, hyy⟩
  refine ⟨_, rfl, ?_⟩
  simp only [Act.put, List.setIfInBounds_toArray, List.set_cons_zero, List.set_cons_succ]
  replace hyy := hyy.symm
  subst hyy
  refine xm [some (.int .i64 6)] (by kernel_rfl) (by simp [xr, go_sem]) ?_
  simp only [xw, p0, p1, p2, p3]
  clear hM
  go_upto_region 3 with (fail)
  refine wp_region_lit ?_
  refine wpList_run rfl (.agg (row 29 (ifV zH 0 (.slice none 0 0) 0 0 0#64)).toArray) (xload 40 (.tmp 6) rfl d 0 29 _ rfl Hd.out.range Try.underlying40 rfl infoI) ?_
  simp only [Act.put, List.setIfInBounds_toArray, List.set_cons_zero, List.set_cons_succ]
  refine xm [some (.int .i64 6)] (by kernel_rfl) (by simp [xr, go_sem]) ?_
  simp only [xw, p0, p1, p2, p3]
  have N0 := hideit (Hr4.out.cells (g' := ifV zH 0 (.slice none 0 0) 0 0 0#64))
  have N1 := hideit (Hz1.out.cellsOther (Ne.symm (Dr4_0.out)) (row 29 (ifV zH 0 (.slice none 0 0) 0 0 0#64)) 0)
  have N2 := hideit (Hd.out.cellsOther (Dd_1.out) (row 29 (ifV zH 0 (.slice none 0 0) 0 0 0#64)) 0)
  have N3 := hideit (Hz5.out.cellsOther (Dz5_1.out) (row 29 (ifV zH 0 (.slice none 0 0) 0 0 0#64)) 0)
  have NE := hideit (below_setCells r4 (ABr4.out) (row 29 (ifV zH 0 (.slice none 0 0) 0 0 0#64)) 0 _ hE.out)
  refine xst rfl (x6.setCells r4 0 (row 29 (ifV zH 0 (.slice none 0 0) 0 0 0#64))) (xstore 40 (.tmp 4) (.tmp 12) rfl r4 29 _ (ifV zH 0 (.slice none 0 0) 0 0 0#64) rfl rfl Hr4.out infoI (fun j _ => ifv_one _ _ _ _ _ _ rfl j)) ?_
  simp only [Act.put]
  generalize x6.setCells r4 0 (row 29 (ifV zH 0 (.slice none 0 0) 0 0 0#64)) = x7 at N0 N1 N2 N3 NE ⊢
  replace Hr4 := N0
  replace Hz1 := N1
  replace Hd := N2
  replace Hz5 := N3
  replace hE := NE
  clear N0 N1 N2 N3 NE
  refine xm [some (.int .i64 6)] (by kernel_rfl) (by simp [xr, go_sem]) ?_
  simp only [xw, p0, p1, p2, p3]
  go_wp2
  refine bodyPost_ret (ret_row2 rfl rfl Hr4.out Try.underlying40 rfl infoI) rfl ?_
  exact ⟨rfl, hE.out⟩
set_option maxRecDepth 20000 in
set_option maxHeartbeats 4000000 in
theorem info_open {F : Nat → Prop} {p C : Nat} {M : MLoc} {w : World} (s : MSt) (hM : MdM F p s C M w) (hop : s.op = true) (hR : okR s.h s.r) : Calls Try.prog 7 #[.pointer (some ⟨p, 0, none⟩)] w fun e w' => ∃ z, e = .returned (.tuple #[.agg (row 29 (ifS s z)).toArray, .int .i64 0]) ∧ w.heap.size ≤ z ∧ RowAt z s.h.sl.toNat (fun j => .bool (tkF s j)) w' ∧ Ext w w' := by
  replace hM := hideit hM
  replace hop := hideit hop
  replace hR := hideit hR
  have hE := hideit (Ext.refl w)
  go_enter Try.func7, Try.ntmps7
  go_upto_region 0 with (fail)
  refine wp_region_lit ?_
  have A0 := hideit (RowAt.new w 29 (ifV zH 0 (.slice none 0 0) 0 0 0#64) 40)
  have XB : Ext w (w.alloc (.cells (row 29 (ifV zH 0 (.slice none 0 0) 0 0 0#64)).toArray 40)) := (Below.refl _ _).alloc (Nat.le_refl _) _
  have L0 := hideit (hM.out.ext XB)
  have AE := hideit (Ext.trans hE.out (XB))
  have AB := hideit (hE.out.size)
  clear XB
  refine wpList_to rfl (.pointer (some ⟨w.heap.size, 0, none⟩)) (w.alloc (.cells (row 29 (ifV zH 0 (.slice none 0 0) 0 0 0#64)).toArray 40)) (xalloc 40 _ rfl (zero40 _)) ?_
  simp only [Act.put, List.setIfInBounds_toArray, List.set_cons_zero, List.set_cons_succ]
  generalize w.alloc (.cells (row 29 (ifV zH 0 (.slice none 0 0) 0 0 0#64)).toArray 40) = x1 at A0 L0 AE ⊢
  obtain ⟨q, eq⟩ : ∃ b, b = w.heap.size := ⟨_, rfl⟩
  have ABq : Hid (w.heap.size ≤ q) := by rw [eq]; exact AB.out
  clear AB
  rw [← eq] at A0  ⊢
  clear eq
  have Hq := A0
  clear A0
  replace hM := L0
  clear L0
  replace hE := AE
  clear AE
  refine xm [some (.int .i64 0)] (by kernel_rfl) (by simp [xr, go_sem]) ?_
  simp only [xw, p0, p1, p2, p3]
  go_upto_region 1 with (fail)
  refine wp_region_lit ?_
  refine xm [some (.pointer (some ⟨p, 0, none⟩)), some (.pointer (some ⟨p, 0, none⟩)), some (.func (.func 29) #[.pointer (some ⟨p, 0, none⟩)] #[])] (by kernel_rfl) (by simp [xr, go_sem]) ?_
  simp only [xw, p0, p1, p2, p3]
  have hql := hideit Hq.out.2.2
  have hBy := hideit (Below.size hE.out)
  refine wpList_call rfl (by simp [go_sem]) ((ansi_open s hM.out hop.out hR.out).mono ?_)
  rintro e y9 ⟨z, rfl, hz1, hz2, hX9⟩
  refine ⟨_, rfl, ?_⟩
  simp only [Act.put, List.setIfInBounds_toArray, List.set_cons_zero, List.set_cons_succ]
  replace Hq := hideit (Hq.out.carry hX9)
  replace hM := hideit (hM.out.ext hX9)
  replace hE := hideit (Ext.trans hE.out (hX9))
  have hqz : Hid (q ≠ z) := by have := hql.out; show q ≠ z; omega
  replace hz1 : Hid (w.heap.size ≤ z) := by have := hBy.out; show w.heap.size ≤ z; omega
  replace hz2 := hideit hz2
  clear hX9 hM
  refine xm [some (.agg (row 29 (ifS s z)).toArray), some (.int .i64 0)] (by kernel_rfl) (by simp [xr, go_sem]) ?_
  simp only [xw, p0, p1, p2, p3]
  have N0 := hideit (Hq.out.cells (g' := ifS s z))
  have N1 := hideit (hz2.out.cellsOther (hqz.out) (row 29 (ifS s z)) 0)
  have NE := hideit (below_setCells q (ABq.out) (row 29 (ifS s z)) 0 _ hE.out)
  refine xst rfl (y9.setCells q 0 (row 29 (ifS s z))) (xstore 40 (.tmp 2) (.tmp 8) rfl q 29 _ (ifS s z) rfl rfl Hq.out infoI (fun j _ => ifs_one _ _ j)) ?_
  simp only [Act.put]
  generalize y9.setCells q 0 (row 29 (ifS s z)) = x2 at N0 N1 NE ⊢
  replace Hq := N0
  replace hz2 := N1
  replace hE := NE
  clear N0 N1 NE
  refine xm [some (.int .i64 0)] (by kernel_rfl) (by simp [xr, go_sem]) ?_
  simp only [xw, p0, p1, p2, p3]
  go_wp2
  refine bodyPost_ret (ret_row2 rfl rfl Hq.out Try.underlying40 rfl infoI) rfl ?_
  exact ⟨z, rfl, hz1.out, hz2.out, hE.out⟩
set_option maxRecDepth 20000 in
set_option maxHeartbeats 4000000 in
theorem info_shut {F : Nat → Prop} {p C : Nat} {M : MLoc} {w : World} (s : MSt) (hM : MdM F p s C M w) (hop : s.op = false) : Calls Try.prog 7 #[.pointer (some ⟨p, 0, none⟩)] w fun e w' => e = .returned (.tuple #[.agg (row 29 (ifV zH 0 (.slice none 0 0) 0 0 0#64)).toArray, .int .i64 6]) ∧ Ext w w' := by
  replace hM := hideit hM
  replace hop := hideit hop
  have hE := hideit (Ext.refl w)
  go_enter Try.func7, Try.ntmps7
  go_upto_region 0 with (fail)
  refine wp_region_lit ?_
  have A0 := hideit (RowAt.new w 29 (ifV zH 0 (.slice none 0 0) 0 0 0#64) 40)
  have XB : Ext w (w.alloc (.cells (row 29 (ifV zH 0 (.slice none 0 0) 0 0 0#64)).toArray 40)) := (Below.refl _ _).alloc (Nat.le_refl _) _
  have L0 := hideit (hM.out.ext XB)
  have AE := hideit (Ext.trans hE.out (XB))
  have AB := hideit (hE.out.size)
  clear XB
  refine wpList_to rfl (.pointer (some ⟨w.heap.size, 0, none⟩)) (w.alloc (.cells (row 29 (ifV zH 0 (.slice none 0 0) 0 0 0#64)).toArray 40)) (xalloc 40 _ rfl (zero40 _)) ?_
  simp only [Act.put, List.setIfInBounds_toArray, List.set_cons_zero, List.set_cons_succ]
  generalize w.alloc (.cells (row 29 (ifV zH 0 (.slice none 0 0) 0 0 0#64)).toArray 40) = x1 at A0 L0 AE ⊢
  obtain ⟨q, eq⟩ : ∃ b, b = w.heap.size := ⟨_, rfl⟩
  have ABq : Hid (w.heap.size ≤ q) := by rw [eq]; exact AB.out
  clear AB
  rw [← eq] at A0  ⊢
  clear eq
  have Hq := A0
  clear A0
  replace hM := L0
  clear L0
  replace hE := AE
  clear AE
  refine xm [some (.int .i64 0)] (by kernel_rfl) (by simp [xr, go_sem]) ?_
  simp only [xw, p0, p1, p2, p3]
  go_upto_region 1 with (fail)
  refine wp_region_lit ?_
  refine xm [some (.pointer (some ⟨p, 0, none⟩)), some (.pointer (some ⟨p, 0, none⟩)), some (.func (.func 29) #[.pointer (some ⟨p, 0, none⟩)] #[])] (by kernel_rfl) (by simp [xr, go_sem]) ?_
  simp only [xw, p0, p1, p2, p3]
  refine wpList_call rfl (by simp [go_sem]) ((ansi_shut s hM.out hop.out).mono ?_)
  rintro e y2 ⟨rfl, hX3⟩
  refine ⟨_, rfl, ?_⟩
  simp only [Act.put, List.setIfInBounds_toArray, List.set_cons_zero, List.set_cons_succ]
  replace Hq := hideit (Hq.out.carry hX3)
  replace hM := hideit (hM.out.ext hX3)
  replace hE := hideit (Ext.trans hE.out (hX3))

  clear hX3
  refine xm [some (.agg (row 29 (ifV zH 0 (.slice none 0 0) 0 0 0#64)).toArray), some (.int .i64 6)] (by kernel_rfl) (by simp [xr, go_sem]) ?_
  simp only [xw, p0, p1, p2, p3]
  clear hM
  have N0 := hideit (Hq.out.cells (g' := ifV zH 0 (.slice none 0 0) 0 0 0#64))
  have NE := hideit (below_setCells q (ABq.out) (row 29 (ifV zH 0 (.slice none 0 0) 0 0 0#64)) 0 _ hE.out)
  refine xst rfl (y2.setCells q 0 (row 29 (ifV zH 0 (.slice none 0 0) 0 0 0#64))) (xstore 40 (.tmp 2) (.tmp 8) rfl q 29 _ (ifV zH 0 (.slice none 0 0) 0 0 0#64) rfl rfl Hq.out infoI (fun j _ => ifv_one _ _ _ _ _ _ rfl j)) ?_
  simp only [Act.put]
  generalize y2.setCells q 0 (row 29 (ifV zH 0 (.slice none 0 0) 0 0 0#64)) = x4 at N0 NE ⊢
  replace Hq := N0
  replace hE := NE
  clear N0 NE
  refine xm [some (.int .i64 6)] (by kernel_rfl) (by simp [xr, go_sem]) ?_
  simp only [xw, p0, p1, p2, p3]
  go_wp2
  refine bodyPost_ret (ret_row2 rfl rfl Hq.out Try.underlying40 rfl infoI) rfl ?_
  exact ⟨rfl, hE.out⟩
end Go.Proofs.Ytcipkfalnjgghaa
