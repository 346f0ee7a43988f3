/-
  Md32, ModelKeeps in one.
-/
import Derived.Test.YtcipkfalnjgghaaMd31
import Derived.Deep.DeepCutAuto
import Derived.Deep.CutRange
import Derived.Deep.CutBlock
import Derived.Test.YtcipkfalnjgghaaRows
import Derived.ProofKit
import Derived.OpenShut
import Derived.ShutString
import Derived.ChangeOld
import Derived.Below
import Derived.SizedLaws
import Derived.Test.YtcipkfalnjgghaaMdO
namespace Go.Proofs.Ytcipkfalnjgghaa
open Go.RowKit Go.BigFrame Go.Maps
set_option linter.unusedVariables false
set_option maxRecDepth 20000 in
set_option maxHeartbeats 4000000 in
theorem keeps_any (oL : Option Addr) (nn cp : Nat) (k n : Int) (o1 : Option Addr) (l1 c1 : Nat) (o2 : Option Addr) (l2 c2 : Nat) (ko : Option Addr) (kl kc : Nat) (w : World) (hops : OpsA oL nn w) (hn : okI n) (hP1 : PB (.slice o1 l1 c1) w) (hP2 : PB (.slice o2 l2 c2) w) : Calls Try.prog 4 #[.slice oL nn cp, .agg #[.int .i64 (k), .int .i64 (n), .slice o1 l1 c1, .slice o2 l2 c2, .slice ko kl kc]] w fun e w' => e = .returned (.bool true) ∧ Ext w w' := by
  rw [opv_row]
  replace hops := hideit hops
  replace hn := hideit hn
  replace hP1 := hideit hP1
  replace hP2 := hideit hP2
  have hE := hideit (Ext.refl w)
  go_enter Try.func4, Try.ntmps4
  go_upto_region 0 with (fail)
  refine wp_region_lit ?_
  have A0 := hideit (RowAt.new w 5 (opV k n o1 l1 c1 o2 l2 c2 ko kl kc) 25)
  have XB : Ext w (w.alloc (.cells (row 5 (opV k n o1 l1 c1 o2 l2 c2 ko kl kc)).toArray 25)) := (Below.refl _ _).alloc (Nat.le_refl _) _
  have AE := hideit (Ext.trans hE.out (XB))
  have AB := hideit (hE.out.size)
  clear XB
  refine wpList_to rfl (.pointer (some ⟨w.heap.size, 0, none⟩)) (w.alloc (.cells (row 5 (opV k n o1 l1 c1 o2 l2 c2 ko kl kc)).toArray 25)) (by simp [go_sem]) ?_
  simp only [Act.put, List.setIfInBounds_toArray, List.set_cons_zero, List.set_cons_succ]
  generalize w.alloc (.cells (row 5 (opV k n o1 l1 c1 o2 l2 c2 ko kl kc)).toArray 25) = x1 at A0 AE ⊢
  obtain ⟨bo, ebo⟩ : ∃ b, b = w.heap.size := ⟨_, rfl⟩
  have ABbo : Hid (w.heap.size ≤ bo) := by rw [ebo]; exact AB.out
  clear AB
  rw [← ebo] at A0  ⊢
  clear ebo
  have Hbo := A0
  clear A0
  replace hE := AE
  clear AE
  refine xm [some (.bool false)] (by kernel_rfl) (by simp [xr, go_sem]) ?_
  simp only [xw, p0, p1, p2, p3]
  go_upto_region 1 with (fail)
  refine wp_region_lit ?_
  refine wpList_call rfl (by simp [go_sem]) ((head9 x1).mono ?_)
  rintro e y2 ⟨rfl, hX3⟩
  refine ⟨_, rfl, ?_⟩
  simp only [Act.put, List.setIfInBounds_toArray, List.set_cons_zero, List.set_cons_succ]
  replace Hbo := hideit (Hbo.out.carry hX3)
  replace hE := hideit (Ext.trans hE.out (hX3))

  clear hX3
  refine wpList_to rfl (.slice (some ⟨y2.heap.size, 0, none⟩) 3 3) (y2.alloc (.cells #[.int .u8 111, .int .u8 110, .int .u8 101] 5)) (by simp [go_sem]) ?_
  simp only [Act.put, List.setIfInBounds_toArray, List.set_cons_zero, List.set_cons_succ]
  obtain ⟨x4, hr, hB, hX⟩ := constB y2 #[.int .u8 111, .int .u8 110, .int .u8 101] 3 (oneF) (fun j hj => by rcases (by omega : j = 0 ∨ j = 1 ∨ j = 2) with rfl | rfl | rfl <;> rfl)
  refine wpList_to rfl (.slice (some ⟨y2.heap.size, 0, none⟩) 3 3) x4 (by simp [go_sem, hr]) ?_
  simp only [Act.put, List.setIfInBounds_toArray, List.set_cons_zero, List.set_cons_succ]
  obtain ⟨a1, ea1⟩ : ∃ a : Addr, a = ⟨y2.heap.size, 0, none⟩ := ⟨_, rfl⟩
  rw [← ea1] at hB ⊢
  clear ea1 hr
  have hb1 := hideit hB
  clear hB
  replace Hbo := hideit (Hbo.out.carry hX)
  replace hE := hideit (Ext.trans hE.out (hX))
  clear hX
  have hs1 := hideit (Below.size hE.out)
  have hbl := hideit Hbo.out.2.2
  refine wpList_call rfl (by simp [go_sem]) ((new_ok h9 (some a1) 3 3 x4 oneF hb1.out okH9 (by decide)).mono ?_)
  rintro e y9 ⟨F, p, M, rfl, hM, hF, hX9⟩
  refine ⟨_, rfl, ?_⟩
  simp only [Act.put, List.setIfInBounds_toArray, List.set_cons_zero, List.set_cons_succ]
  replace Hbo := hideit (Hbo.out.carry hX9)
  replace hb1 := hideit (hb1.out.ext hX9)
  replace hE := hideit (Ext.trans hE.out (hX9))
  replace hM := hideit hM
  have hbF : Hid (¬ F bo) := fun e => by have := hF bo e; have := hbl.out; omega
  replace hF : Hid (∀ i, F i → w.heap.size ≤ i) := fun i hi => Nat.le_trans hs1.out (hF i hi)
  clear hX9 hs1 hbl
  refine xm [some (.tuple #[.pointer (some ⟨p, 0, none⟩), .int .i64 0]), some (.pointer (some ⟨p, 0, none⟩)), some (.int .i64 0), some (.pointer (some ⟨p, 0, none⟩)), some (.int .i64 0)] (by kernel_rfl) (by simp [xr, go_sem]) ?_
  simp only [xw, p0, p1, p2, p3]
  clear hb1
  go_upto_region 2 with (fail)
  refine wp_region_lit ?_
  refine wpList_call rfl (by simp [go_sem]) ((lives_any y9).mono ?_)
  rintro e y5 ⟨rfl, hX6⟩
  refine ⟨_, rfl, ?_⟩
  simp only [Act.put, List.setIfInBounds_toArray, List.set_cons_zero, List.set_cons_succ]
  replace Hbo := hideit (Hbo.out.carry hX6)
  replace hM := hideit (hM.out.ext hX6)
  replace hE := hideit (Ext.trans hE.out (hX6))

  clear hX6
  refine xm [some (.bool false), some (.bool false), some (.int .i64 0), some (.bool false), some (.bool false), some (.bool false), some (.pointer (some ⟨p, 0, none⟩)), some (.bool false), some (.bool false), some (.bool false), some (.pointer (some ⟨p, 0, none⟩))] (by kernel_rfl) (by simp [xr, go_sem]) ?_
  simp only [xw, p0, p1, p2, p3]
  refine wpList_toW rfl (.slice (some ⟨y5.heap.size, 0, none⟩) 3 3) (y5.alloc (.cells #[.int .u8 111, .int .u8 110, .int .u8 101] 5)) (by simp [go_sem]) ?_
  simp only [Act.put, List.setIfInBounds_toArray, List.set_cons_zero, List.set_cons_succ]
  obtain ⟨x7, hr, hB, hX⟩ := constB y5 #[.int .u8 111, .int .u8 110, .int .u8 101] 3 (oneF) (fun j hj => by rcases (by omega : j = 0 ∨ j = 1 ∨ j = 2) with rfl | rfl | rfl <;> rfl)
  refine wpList_toW rfl (.slice (some ⟨y5.heap.size, 0, none⟩) 3 3) x7 (by simp [go_sem, hr]) ?_
  simp only [Act.put, List.setIfInBounds_toArray, List.set_cons_zero, List.set_cons_succ]
  obtain ⟨a2, ea2⟩ : ∃ a : Addr, a = ⟨y5.heap.size, 0, none⟩ := ⟨_, rfl⟩
  rw [← ea2] at hB ⊢
  clear ea2 hr
  have hb2 := hideit hB
  clear hB
  replace Hbo := hideit (Hbo.out.carry hX)
  replace hM := hideit (hM.out.ext hX)
  replace hE := hideit (Ext.trans hE.out (hX))
  clear hX
  refine wpList_callW rfl (by simp [go_sem]) ((open_any l0 hM.out (some a2) 3 3 oneF hb2.out).mono ?_)
  rintro e y6 ⟨c, s, rfl, hop, hM9, hK9⟩
  refine ⟨_, rfl, ?_⟩
  simp only [Act.put, List.setIfInBounds_toArray, List.set_cons_zero, List.set_cons_succ]
  obtain ⟨rfl, hSt⟩ := op_one9 hop
  replace hM := hideit hM9
  replace hE := hideit (Ext.keeps hE.out hK9 hF.out)
  replace Hbo := hideit (Hbo.out.keep hK9 hbF.out)
  replace hSt := hideit hSt
  clear hM9 hK9 hop hb2
  refine xm [some (.bool false), some (.bool false)] (by kernel_rfl) (by simp [xr, go_sem]) ?_
  simp only [xw, p0, p1, p2, p3]
  go_upto_region 4 with (fail)
  refine wp_region_lit ?_
  refine xm [some (.int .i64 0)] (by kernel_rfl) (by simp [xr, go_sem]) ?_
  simp only [xw, p0, p1, p2, p3]
  go_wp2
  go_loopw [7] (fun t X => ∃ (i : Nat) (s : MSt) (M : MLoc), i ≤ 50 ∧ t = .int .i64 (i : Int) ∧ MdM F p s (1 + i) M X ∧ StOk s (2 * i) ∧ Ext w X ∧ RowAt bo 5 (opV k n o1 l1 c1 o2 l2 c2 ko kl kc) X) (fun t _ => 60 - (intOf t).toNat)
  case atStart => exact ⟨0, s, M, by omega, rfl, hM.out, hSt.out, hE.out, Hbo.out⟩
  case round =>
    clear hM hSt hE Hbo
    obtain ⟨i, s, M, hi, rfl, hM, hSt, hE, Hbo⟩ := hrel
    have hi9 : Hid (2 * i < 900) := by show 2 * i < 900; omega
    have hC9 : Hid (1 + i < maxLen) := by show 1 + i < maxLen; unfold maxLen; omega
    have ek : IntKind.i64.wrap ((i : Int) + 1) = ((i + 1 : Nat) : Int) := by rw [IntKind.wrap_i64]; omega
    replace hM := hideit hM
    replace hSt := hideit hSt
    replace hE := hideit hE
    replace Hbo := hideit Hbo
    by_cases hlt : i < nn ∧ i < 50
    · obtain ⟨hin, hi5⟩ := hlt
      have i1 : Hid ((i : Int) < (nn : Int)) := by show (i : Int) < (nn : Int); omega
      · have i2 : Hid ((i : Int) < 50) := by show (i : Int) < 50; omega
        obtain ⟨ab, ao, kk, mm, u1, u2, qq, rfl, hLw, hkk, hmm, hQ1, hQ2⟩ := hops.out i hin
        obtain ⟨uo, ul, uc, rfl⟩ := hQ1.form
        obtain ⟨vo, vl, vc, rfl⟩ := hQ2.form
        have hL := hideit (hLw.ext hE.out)
        replace hLw := hideit hLw
        replace hQ1 := hideit hQ1
        replace hQ2 := hideit hQ2
        replace hmm := hideit hmm
        replace hi5 := hideit hi5
        clear hin hi hkk
        by_cases e1 : kk = 1
        · have k1 := hideit e1
          have k4 : Hid (¬ kk = 4) := by show ¬ kk = 4; omega
          have k6 : Hid (¬ kk = 6) := by show ¬ kk = 6; omega
          clear e1
          go_upto_region 5 with (fail)
          refine wp_region_lit ?_
          refine xm [some (.int .i64 (i : Int)), some (.slice (some ⟨ab, ao, none⟩) nn cp), some (.int .i64 (nn : Int)), some (.bool true), some (.bool true), some (.int .i64 (i : Int)), some (.bool true), some (.bool true)] (by kernel_rfl) (by simp [xr, go_sem, i1.out, i2.out]) ?_
          simp only [xw, p0, p1, p2, p3]
          go_upto_region 7 with (fail)
          refine wp_region_lit ?_
          refine xm [some (.slice (some ⟨ab, ao, none⟩) nn cp), some (.int .i64 (i : Int)), some (.pointer (some ⟨ab, ao + i * 5, none⟩)), some (.pointer (some ⟨ab, ao + i * 5, none⟩))] (by kernel_rfl) (by simp [xr, go_sem, i1.out]) ?_
          simp only [xw, p0, p1, p2, p3]
          refine wpList_run rfl (.int .i64 (kk)) (xloadV 3 (.tmp 51) rfl ⟨ab, ao + i * 5, none⟩ (.int .i64 kk) rfl hL.out.1 Try.isAgg3) ?_
          simp only [Act.put, List.setIfInBounds_toArray, List.set_cons_zero, List.set_cons_succ]
          refine xm [some (.bool true)] (by kernel_rfl) (by simp [xr, go_sem, k1.out]) ?_
          simp only [xw, p0, p1, p2, p3]
          go_upto_region 8 with (fail)
          replace Hbo := hideit Hbo.out.drew
          replace hM := hideit (hM.out.ext (Ext.draw (Ext.refl wr)))
          replace hL := hideit (hL.out.ext (Ext.draw (Ext.refl wr)))
          replace hE := hideit (Ext.draw hE.out)
          refine wp_region_ladz (fun X => Ext wr.drew X) [12] [(false, 0), (false, 1), (false, 2), (false, 3), (false, 4), (false, 5), (false, 6), (false, 7), (false, 8), (false, 9), (false, 10), (true, 11), (true, 12)] (by kernel_rfl) (by kernel_rfl) (by decide +kernel) (by decide +kernel) (by decide +kernel) (by decide +kernel) (Ext.refl _) ?_
          refine wpZ_f _ (.pointer (some ⟨p, 0, none⟩)) rfl rfl (fun X _ => by simp [go_sem]) ?_
          simp only [List.getElem_toArray, List.getElem_cons_zero, Act.put, List.setIfInBounds_toArray, List.set_cons_zero, List.set_cons_succ]
          refine wpZ_f _ (.slice (some ⟨ab, ao, none⟩) nn cp) rfl rfl (fun X _ => by simp [go_sem]) ?_
          simp only [List.getElem_toArray, List.getElem_cons_zero, List.getElem_cons_succ, Act.put, List.setIfInBounds_toArray, List.set_cons_zero, List.set_cons_succ]
          refine wpZ_f _ (.int .i64 (i : Int)) rfl rfl (fun X _ => by simp [go_sem]) ?_
          simp only [List.getElem_toArray, List.getElem_cons_zero, List.getElem_cons_succ, Act.put, List.setIfInBounds_toArray, List.set_cons_zero, List.set_cons_succ]
          refine wpZ_f _ (.pointer (some ⟨ab, ao + i * 5, none⟩)) rfl rfl (fun X _ => by simp [go_sem, i1.out]) ?_
          simp only [List.getElem_toArray, List.getElem_cons_zero, List.getElem_cons_succ, Act.put, List.setIfInBounds_toArray, List.set_cons_zero, List.set_cons_succ]
          refine wpZ_f _ (.pointer (some ⟨ab, ao + i * 5 + 1, none⟩)) rfl rfl (fun X _ => by simp [go_sem]) ?_
          simp only [List.getElem_toArray, List.getElem_cons_zero, List.getElem_cons_succ, Act.put, List.setIfInBounds_toArray, List.set_cons_zero, List.set_cons_succ]
          refine wpZ_f _ (.int .i64 (mm)) rfl rfl (fun X hX => xloadV 3 (.tmp 58) rfl ⟨ab, ao + i * 5 + 1, none⟩ (.int .i64 (mm)) rfl ((hL.out.ext hX).2.1) Try.isAgg3) ?_
          simp only [List.getElem_toArray, List.getElem_cons_zero, List.getElem_cons_succ, Act.put, List.setIfInBounds_toArray, List.set_cons_zero, List.set_cons_succ]
          refine wpZ_f _ (.slice (some ⟨ab, ao, none⟩) nn cp) rfl rfl (fun X _ => by simp [go_sem]) ?_
          simp only [List.getElem_toArray, List.getElem_cons_zero, List.getElem_cons_succ, Act.put, List.setIfInBounds_toArray, List.set_cons_zero, List.set_cons_succ]
          refine wpZ_f _ (.int .i64 (i : Int)) rfl rfl (fun X _ => by simp [go_sem]) ?_
          simp only [List.getElem_toArray, List.getElem_cons_zero, List.getElem_cons_succ, Act.put, List.setIfInBounds_toArray, List.set_cons_zero, List.set_cons_succ]
          refine wpZ_f _ (.pointer (some ⟨ab, ao + i * 5, none⟩)) rfl rfl (fun X _ => by simp [go_sem, i1.out]) ?_
          simp only [List.getElem_toArray, List.getElem_cons_zero, List.getElem_cons_succ, Act.put, List.setIfInBounds_toArray, List.set_cons_zero, List.set_cons_succ]
          refine wpZ_f _ (.pointer (some ⟨ab, ao + i * 5 + 2, none⟩)) rfl rfl (fun X _ => by simp [go_sem]) ?_
          simp only [List.getElem_toArray, List.getElem_cons_zero, List.getElem_cons_succ, Act.put, List.setIfInBounds_toArray, List.set_cons_zero, List.set_cons_succ]
          refine wpZ_f _ (.slice uo ul uc) rfl rfl (fun X hX => xloadV 22 (.tmp 63) rfl ⟨ab, ao + i * 5 + 2, none⟩ (.slice uo ul uc) rfl ((hL.out.ext hX).2.2.1) Try.isAgg22) ?_
          simp only [List.getElem_toArray, List.getElem_cons_zero, List.getElem_cons_succ, Act.put, List.setIfInBounds_toArray, List.set_cons_zero, List.set_cons_succ]
          refine wpZ_call _ rfl rfl (by simp [go_sem]) (((hQ1.out.ext hE.out).block).mono ?_)
          rintro e yb ⟨zb, rfl, hzb, hX7⟩
          refine ⟨_, rfl, fun X => Ext yb X, .inr (fun X hX => Ext.trans hX7 hX), Ext.refl _, ?_⟩
          simp only [List.getElem_toArray, List.getElem_cons_zero, List.getElem_cons_succ, Act.put, List.setIfInBounds_toArray, List.set_cons_zero, List.set_cons_succ]
          replace Hbo := hideit (Hbo.out.carry hX7)
          replace hM := hideit (hM.out.ext hX7)
          replace hL := hideit (hL.out.ext hX7)
          replace hE := hideit (Ext.trans hE.out (hX7))
          replace hzb := hideit hzb
          clear hX7
          refine wpZ_call _ rfl rfl (by simp [go_sem]) ((writeK s hM.out (2 * i) hSt.out hi9.out mm (some ⟨zb, 0, none⟩) 512 512 hzb.out hmm.out hC9.out).mono ?_)
          rintro e y7 ⟨c, s', M', rfl, hst, hM9, hK9⟩
          refine ⟨_, rfl, fun X => Ext y7 X, .inl (by simp), Ext.refl _, ?_⟩
          simp only [List.getElem_toArray, List.getElem_cons_zero, List.getElem_cons_succ, Act.put, List.setIfInBounds_toArray, List.set_cons_zero, List.set_cons_succ]
          replace hM := hideit hM9
          replace hE := hideit (Ext.keeps hE.out hK9 hF.out)
          replace Hbo := hideit (Hbo.out.keep hK9 hbF.out)
          replace hst := hideit hst
          clear hM9 hK9
          refine wpZ_nil ?_
          clear hzb hL
          have hL := hideit (hLw.out.ext hE.out)
          go_upto_region 9 with (fail)
          refine wp_region_lit ?_
          refine xm [some (.slice (some ⟨ab, ao, none⟩) nn cp), some (.int .i64 (i : Int)), some (.pointer (some ⟨ab, ao + i * 5, none⟩)), some (.pointer (some ⟨ab, ao + i * 5, none⟩))] (by kernel_rfl) (by simp [xr, go_sem, i1.out]) ?_
          simp only [xw, p0, p1, p2, p3]
          refine wpList_run rfl (.int .i64 (kk)) (xloadV 3 (.tmp 70) rfl ⟨ab, ao + i * 5, none⟩ (.int .i64 kk) rfl hL.out.1 Try.isAgg3) ?_
          simp only [Act.put, List.setIfInBounds_toArray, List.set_cons_zero, List.set_cons_succ]
          refine xm [some (.bool false)] (by kernel_rfl) (by simp [xr, go_sem, k4.out]) ?_
          simp only [xw, p0, p1, p2, p3]
          go_upto_region 11 with (fail)
          refine wp_region_lit ?_
          refine xm [some (.slice (some ⟨ab, ao, none⟩) nn cp), some (.int .i64 (i : Int)), some (.pointer (some ⟨ab, ao + i * 5, none⟩)), some (.pointer (some ⟨ab, ao + i * 5, none⟩))] (by kernel_rfl) (by simp [xr, go_sem, i1.out]) ?_
          simp only [xw, p0, p1, p2, p3]
          refine wpList_run rfl (.int .i64 (kk)) (xloadV 3 (.tmp 88) rfl ⟨ab, ao + i * 5, none⟩ (.int .i64 kk) rfl hL.out.1 Try.isAgg3) ?_
          simp only [Act.put, List.setIfInBounds_toArray, List.set_cons_zero, List.set_cons_succ]
          refine xm [some (.bool false)] (by kernel_rfl) (by simp [xr, go_sem, k6.out]) ?_
          simp only [xw, p0, p1, p2, p3]
          go_upto_region 6 with (fail)
          refine wp_region_lit ?_
          refine xm [some (.int .i64 (i : Int)), some (.int .i64 ((i + 1 : Nat) : Int)), some (.int .i64 ((i + 1 : Nat) : Int))] (by kernel_rfl) (by simp [xr, go_sem, ek]) ?_
          simp only [xw, p0, p1, p2, p3]
          go_wp2
          go_round
          case rel => exact ⟨i + 1, s', M', by have := hi5.out; omega, rfl, hM.out, by have := hst.out.ok; rwa [show 2 * i + 2 = 2 * (i + 1) by omega] at this, hE.out, Hbo.out⟩
          case measure => have := hi5.out; simp [intOf]; omega
        · by_cases e4 : kk = 4
          · have k4 := hideit e4
            have k1 : Hid (¬ kk = 1) := by show ¬ kk = 1; omega
            have k6 : Hid (¬ kk = 6) := by show ¬ kk = 6; omega
            clear e4
            clear e1
            go_upto_region 5 with (fail)
            refine wp_region_lit ?_
            refine xm [some (.int .i64 (i : Int)), some (.slice (some ⟨ab, ao, none⟩) nn cp), some (.int .i64 (nn : Int)), some (.bool true), some (.bool true), some (.int .i64 (i : Int)), some (.bool true), some (.bool true)] (by kernel_rfl) (by simp [xr, go_sem, i1.out, i2.out]) ?_
            simp only [xw, p0, p1, p2, p3]
            go_upto_region 7 with (fail)
            refine wp_region_lit ?_
            refine xm [some (.slice (some ⟨ab, ao, none⟩) nn cp), some (.int .i64 (i : Int)), some (.pointer (some ⟨ab, ao + i * 5, none⟩)), some (.pointer (some ⟨ab, ao + i * 5, none⟩))] (by kernel_rfl) (by simp [xr, go_sem, i1.out]) ?_
            simp only [xw, p0, p1, p2, p3]
            refine wpList_run rfl (.int .i64 (kk)) (xloadV 3 (.tmp 51) rfl ⟨ab, ao + i * 5, none⟩ (.int .i64 kk) rfl hL.out.1 Try.isAgg3) ?_
            simp only [Act.put, List.setIfInBounds_toArray, List.set_cons_zero, List.set_cons_succ]
            refine xm [some (.bool false)] (by kernel_rfl) (by simp [xr, go_sem, k1.out]) ?_
            simp only [xw, p0, p1, p2, p3]
            go_upto_region 9 with (fail)
            refine wp_region_lit ?_
            refine xm [some (.slice (some ⟨ab, ao, none⟩) nn cp), some (.int .i64 (i : Int)), some (.pointer (some ⟨ab, ao + i * 5, none⟩)), some (.pointer (some ⟨ab, ao + i * 5, none⟩))] (by kernel_rfl) (by simp [xr, go_sem, i1.out]) ?_
            simp only [xw, p0, p1, p2, p3]
            refine wpList_run rfl (.int .i64 (kk)) (xloadV 3 (.tmp 70) rfl ⟨ab, ao + i * 5, none⟩ (.int .i64 kk) rfl hL.out.1 Try.isAgg3) ?_
            simp only [Act.put, List.setIfInBounds_toArray, List.set_cons_zero, List.set_cons_succ]
            refine xm [some (.bool true)] (by kernel_rfl) (by simp [xr, go_sem, k4.out]) ?_
            simp only [xw, p0, p1, p2, p3]
            go_upto_region 10 with (fail)
            replace Hbo := hideit Hbo.out.drew
            replace hM := hideit (hM.out.ext (Ext.draw (Ext.refl wr)))
            replace hL := hideit (hL.out.ext (Ext.draw (Ext.refl wr)))
            replace hE := hideit (Ext.draw hE.out)
            refine wp_region_ladz (fun X => Ext wr.drew X) [11] [(false, 0), (false, 1), (false, 2), (false, 3), (false, 4), (false, 5), (false, 6), (false, 7), (false, 8), (false, 9), (false, 10), (true, 11)] (by kernel_rfl) (by kernel_rfl) (by decide +kernel) (by decide +kernel) (by decide +kernel) (by decide +kernel) (Ext.refl _) ?_
            refine wpZ_f _ (.pointer (some ⟨p, 0, none⟩)) rfl rfl (fun X _ => by simp [go_sem]) ?_
            simp only [List.getElem_toArray, List.getElem_cons_zero, Act.put, List.setIfInBounds_toArray, List.set_cons_zero, List.set_cons_succ]
            refine wpZ_f _ (.slice (some ⟨ab, ao, none⟩) nn cp) rfl rfl (fun X _ => by simp [go_sem]) ?_
            simp only [List.getElem_toArray, List.getElem_cons_zero, List.getElem_cons_succ, Act.put, List.setIfInBounds_toArray, List.set_cons_zero, List.set_cons_succ]
            refine wpZ_f _ (.int .i64 (i : Int)) rfl rfl (fun X _ => by simp [go_sem]) ?_
            simp only [List.getElem_toArray, List.getElem_cons_zero, List.getElem_cons_succ, Act.put, List.setIfInBounds_toArray, List.set_cons_zero, List.set_cons_succ]
            refine wpZ_f _ (.pointer (some ⟨ab, ao + i * 5, none⟩)) rfl rfl (fun X _ => by simp [go_sem, i1.out]) ?_
            simp only [List.getElem_toArray, List.getElem_cons_zero, List.getElem_cons_succ, Act.put, List.setIfInBounds_toArray, List.set_cons_zero, List.set_cons_succ]
            refine wpZ_f _ (.pointer (some ⟨ab, ao + i * 5 + 1, none⟩)) rfl rfl (fun X _ => by simp [go_sem]) ?_
            simp only [List.getElem_toArray, List.getElem_cons_zero, List.getElem_cons_succ, Act.put, List.setIfInBounds_toArray, List.set_cons_zero, List.set_cons_succ]
            refine wpZ_f _ (.int .i64 (mm)) rfl rfl (fun X hX => xloadV 3 (.tmp 77) rfl ⟨ab, ao + i * 5 + 1, none⟩ (.int .i64 (mm)) rfl ((hL.out.ext hX).2.1) Try.isAgg3) ?_
            simp only [List.getElem_toArray, List.getElem_cons_zero, List.getElem_cons_succ, Act.put, List.setIfInBounds_toArray, List.set_cons_zero, List.set_cons_succ]
            refine wpZ_f _ (.slice (some ⟨ab, ao, none⟩) nn cp) rfl rfl (fun X _ => by simp [go_sem]) ?_
            simp only [List.getElem_toArray, List.getElem_cons_zero, List.getElem_cons_succ, Act.put, List.setIfInBounds_toArray, List.set_cons_zero, List.set_cons_succ]
            refine wpZ_f _ (.int .i64 (i : Int)) rfl rfl (fun X _ => by simp [go_sem]) ?_
            simp only [List.getElem_toArray, List.getElem_cons_zero, List.getElem_cons_succ, Act.put, List.setIfInBounds_toArray, List.set_cons_zero, List.set_cons_succ]
            refine wpZ_f _ (.pointer (some ⟨ab, ao + i * 5, none⟩)) rfl rfl (fun X _ => by simp [go_sem, i1.out]) ?_
            simp only [List.getElem_toArray, List.getElem_cons_zero, List.getElem_cons_succ, Act.put, List.setIfInBounds_toArray, List.set_cons_zero, List.set_cons_succ]
            refine wpZ_f _ (.pointer (some ⟨ab, ao + i * 5 + 3, none⟩)) rfl rfl (fun X _ => by simp [go_sem]) ?_
            simp only [List.getElem_toArray, List.getElem_cons_zero, List.getElem_cons_succ, Act.put, List.setIfInBounds_toArray, List.set_cons_zero, List.set_cons_succ]
            refine wpZ_f _ (.slice vo vl vc) rfl rfl (fun X hX => xloadV 22 (.tmp 82) rfl ⟨ab, ao + i * 5 + 3, none⟩ (.slice vo vl vc) rfl ((hL.out.ext hX).2.2.2.1) Try.isAgg22) ?_
            simp only [List.getElem_toArray, List.getElem_cons_zero, List.getElem_cons_succ, Act.put, List.setIfInBounds_toArray, List.set_cons_zero, List.set_cons_succ]
            refine wpZ_call _ rfl rfl (by simp [go_sem]) ((addK s hM.out (2 * i) hSt.out hi9.out mm vo vl vc (hQ2.out.ext hE.out) hmm.out hC9.out).mono ?_)
            rintro e y7 ⟨c, s', M', rfl, hst, hM9, hK9⟩
            refine ⟨_, rfl, fun X => Ext y7 X, .inl (by simp), Ext.refl _, ?_⟩
            simp only [List.getElem_toArray, List.getElem_cons_zero, List.getElem_cons_succ, Act.put, List.setIfInBounds_toArray, List.set_cons_zero, List.set_cons_succ]
            replace hM := hideit hM9
            replace hE := hideit (Ext.keeps hE.out hK9 hF.out)
            replace Hbo := hideit (Hbo.out.keep hK9 hbF.out)
            replace hst := hideit hst
            clear hM9 hK9
            refine wpZ_nil ?_
            clear hL
            have hL := hideit (hLw.out.ext hE.out)
            go_upto_region 11 with (fail)
            refine wp_region_lit ?_
            refine xm [some (.slice (some ⟨ab, ao, none⟩) nn cp), some (.int .i64 (i : Int)), some (.pointer (some ⟨ab, ao + i * 5, none⟩)), some (.pointer (some ⟨ab, ao + i * 5, none⟩))] (by kernel_rfl) (by simp [xr, go_sem, i1.out]) ?_
            simp only [xw, p0, p1, p2, p3]
            refine wpList_run rfl (.int .i64 (kk)) (xloadV 3 (.tmp 88) rfl ⟨ab, ao + i * 5, none⟩ (.int .i64 kk) rfl hL.out.1 Try.isAgg3) ?_
            simp only [Act.put, List.setIfInBounds_toArray, List.set_cons_zero, List.set_cons_succ]
            refine xm [some (.bool false)] (by kernel_rfl) (by simp [xr, go_sem, k6.out]) ?_
            simp only [xw, p0, p1, p2, p3]
            go_upto_region 6 with (fail)
            refine wp_region_lit ?_
            refine xm [some (.int .i64 (i : Int)), some (.int .i64 ((i + 1 : Nat) : Int)), some (.int .i64 ((i + 1 : Nat) : Int))] (by kernel_rfl) (by simp [xr, go_sem, ek]) ?_
            simp only [xw, p0, p1, p2, p3]
            go_wp2
            go_round
            case rel => exact ⟨i + 1, s', M', by have := hi5.out; omega, rfl, hM.out, by have := hst.out.ok; rwa [show 2 * i + 2 = 2 * (i + 1) by omega] at this, hE.out, Hbo.out⟩
            case measure => have := hi5.out; simp [intOf]; omega
          · by_cases e6 : kk = 6
            · have k6 := hideit e6
              have k1 : Hid (¬ kk = 1) := by show ¬ kk = 1; omega
              have k4 : Hid (¬ kk = 4) := by show ¬ kk = 4; omega
              clear e6
              clear e1 e4
              go_upto_region 5 with (fail)
              refine wp_region_lit ?_
              refine xm [some (.int .i64 (i : Int)), some (.slice (some ⟨ab, ao, none⟩) nn cp), some (.int .i64 (nn : Int)), some (.bool true), some (.bool true), some (.int .i64 (i : Int)), some (.bool true), some (.bool true)] (by kernel_rfl) (by simp [xr, go_sem, i1.out, i2.out]) ?_
              simp only [xw, p0, p1, p2, p3]
              go_upto_region 7 with (fail)
              refine wp_region_lit ?_
              refine xm [some (.slice (some ⟨ab, ao, none⟩) nn cp), some (.int .i64 (i : Int)), some (.pointer (some ⟨ab, ao + i * 5, none⟩)), some (.pointer (some ⟨ab, ao + i * 5, none⟩))] (by kernel_rfl) (by simp [xr, go_sem, i1.out]) ?_
              simp only [xw, p0, p1, p2, p3]
              refine wpList_run rfl (.int .i64 (kk)) (xloadV 3 (.tmp 51) rfl ⟨ab, ao + i * 5, none⟩ (.int .i64 kk) rfl hL.out.1 Try.isAgg3) ?_
              simp only [Act.put, List.setIfInBounds_toArray, List.set_cons_zero, List.set_cons_succ]
              refine xm [some (.bool false)] (by kernel_rfl) (by simp [xr, go_sem, k1.out]) ?_
              simp only [xw, p0, p1, p2, p3]
              go_upto_region 9 with (fail)
              refine wp_region_lit ?_
              refine xm [some (.slice (some ⟨ab, ao, none⟩) nn cp), some (.int .i64 (i : Int)), some (.pointer (some ⟨ab, ao + i * 5, none⟩)), some (.pointer (some ⟨ab, ao + i * 5, none⟩))] (by kernel_rfl) (by simp [xr, go_sem, i1.out]) ?_
              simp only [xw, p0, p1, p2, p3]
              refine wpList_run rfl (.int .i64 (kk)) (xloadV 3 (.tmp 70) rfl ⟨ab, ao + i * 5, none⟩ (.int .i64 kk) rfl hL.out.1 Try.isAgg3) ?_
              simp only [Act.put, List.setIfInBounds_toArray, List.set_cons_zero, List.set_cons_succ]
              refine xm [some (.bool false)] (by kernel_rfl) (by simp [xr, go_sem, k4.out]) ?_
              simp only [xw, p0, p1, p2, p3]
              go_upto_region 11 with (fail)
              refine wp_region_lit ?_
              refine xm [some (.slice (some ⟨ab, ao, none⟩) nn cp), some (.int .i64 (i : Int)), some (.pointer (some ⟨ab, ao + i * 5, none⟩)), some (.pointer (some ⟨ab, ao + i * 5, none⟩))] (by kernel_rfl) (by simp [xr, go_sem, i1.out]) ?_
              simp only [xw, p0, p1, p2, p3]
              refine wpList_run rfl (.int .i64 (kk)) (xloadV 3 (.tmp 88) rfl ⟨ab, ao + i * 5, none⟩ (.int .i64 kk) rfl hL.out.1 Try.isAgg3) ?_
              simp only [Act.put, List.setIfInBounds_toArray, List.set_cons_zero, List.set_cons_succ]
              refine xm [some (.bool true)] (by kernel_rfl) (by simp [xr, go_sem, k6.out]) ?_
              simp only [xw, p0, p1, p2, p3]
              go_upto_region 12 with (fail)
              refine wp_region_lit ?_
              refine xm [some (.pointer (some ⟨p, 0, none⟩))] (by kernel_rfl) (by simp [xr, go_sem]) ?_
              simp only [xw, p0, p1, p2, p3]
              refine wpList_call rfl (by simp [go_sem]) ((startK s hM.out (2 * i) hSt.out hi9.out ).mono ?_)
              rintro e y7 ⟨c, s', M', rfl, hst, hM9, hK9⟩
              refine ⟨_, rfl, ?_⟩
              simp only [Act.put, List.setIfInBounds_toArray, List.set_cons_zero, List.set_cons_succ]
              replace hM := hideit hM9
              replace hE := hideit (Ext.keeps hE.out hK9 hF.out)
              replace Hbo := hideit (Hbo.out.keep hK9 hbF.out)
              replace hst := hideit hst
              clear hM9 hK9
              clear hL
              have hL := hideit (hLw.out.ext hE.out)
              go_upto_region 6 with (fail)
              refine wp_region_lit ?_
              refine xm [some (.int .i64 (i : Int)), some (.int .i64 ((i + 1 : Nat) : Int)), some (.int .i64 ((i + 1 : Nat) : Int))] (by kernel_rfl) (by simp [xr, go_sem, ek]) ?_
              simp only [xw, p0, p1, p2, p3]
              go_wp2
              go_round
              case rel => exact ⟨i + 1, s', M', by have := hi5.out; omega, rfl, hM.out, by have := hst.out.ok; rwa [show 2 * i + 2 = 2 * (i + 1) by omega] at this, hE.out, Hbo.out⟩
              case measure => have := hi5.out; simp [intOf]; omega
            · have k1 := hideit e1
              have k4 := hideit e4
              have k6 := hideit e6
              clear e1 e4 e6
              go_upto_region 5 with (fail)
              refine wp_region_lit ?_
              refine xm [some (.int .i64 (i : Int)), some (.slice (some ⟨ab, ao, none⟩) nn cp), some (.int .i64 (nn : Int)), some (.bool true), some (.bool true), some (.int .i64 (i : Int)), some (.bool true), some (.bool true)] (by kernel_rfl) (by simp [xr, go_sem, i1.out, i2.out]) ?_
              simp only [xw, p0, p1, p2, p3]
              go_upto_region 7 with (fail)
              refine wp_region_lit ?_
              refine xm [some (.slice (some ⟨ab, ao, none⟩) nn cp), some (.int .i64 (i : Int)), some (.pointer (some ⟨ab, ao + i * 5, none⟩)), some (.pointer (some ⟨ab, ao + i * 5, none⟩))] (by kernel_rfl) (by simp [xr, go_sem, i1.out]) ?_
              simp only [xw, p0, p1, p2, p3]
              refine wpList_run rfl (.int .i64 (kk)) (xloadV 3 (.tmp 51) rfl ⟨ab, ao + i * 5, none⟩ (.int .i64 kk) rfl hL.out.1 Try.isAgg3) ?_
              simp only [Act.put, List.setIfInBounds_toArray, List.set_cons_zero, List.set_cons_succ]
              refine xm [some (.bool false)] (by kernel_rfl) (by simp [xr, go_sem, k1.out]) ?_
              simp only [xw, p0, p1, p2, p3]
              go_upto_region 9 with (fail)
              refine wp_region_lit ?_
              refine xm [some (.slice (some ⟨ab, ao, none⟩) nn cp), some (.int .i64 (i : Int)), some (.pointer (some ⟨ab, ao + i * 5, none⟩)), some (.pointer (some ⟨ab, ao + i * 5, none⟩))] (by kernel_rfl) (by simp [xr, go_sem, i1.out]) ?_
              simp only [xw, p0, p1, p2, p3]
              refine wpList_run rfl (.int .i64 (kk)) (xloadV 3 (.tmp 70) rfl ⟨ab, ao + i * 5, none⟩ (.int .i64 kk) rfl hL.out.1 Try.isAgg3) ?_
              simp only [Act.put, List.setIfInBounds_toArray, List.set_cons_zero, List.set_cons_succ]
              refine xm [some (.bool false)] (by kernel_rfl) (by simp [xr, go_sem, k4.out]) ?_
              simp only [xw, p0, p1, p2, p3]
              go_upto_region 11 with (fail)
              refine wp_region_lit ?_
              refine xm [some (.slice (some ⟨ab, ao, none⟩) nn cp), some (.int .i64 (i : Int)), some (.pointer (some ⟨ab, ao + i * 5, none⟩)), some (.pointer (some ⟨ab, ao + i * 5, none⟩))] (by kernel_rfl) (by simp [xr, go_sem, i1.out]) ?_
              simp only [xw, p0, p1, p2, p3]
              refine wpList_run rfl (.int .i64 (kk)) (xloadV 3 (.tmp 88) rfl ⟨ab, ao + i * 5, none⟩ (.int .i64 kk) rfl hL.out.1 Try.isAgg3) ?_
              simp only [Act.put, List.setIfInBounds_toArray, List.set_cons_zero, List.set_cons_succ]
              refine xm [some (.bool false)] (by kernel_rfl) (by simp [xr, go_sem, k6.out]) ?_
              simp only [xw, p0, p1, p2, p3]
              go_upto_region 6 with (fail)
              refine wp_region_lit ?_
              refine xm [some (.int .i64 (i : Int)), some (.int .i64 ((i + 1 : Nat) : Int)), some (.int .i64 ((i + 1 : Nat) : Int))] (by kernel_rfl) (by simp [xr, go_sem, ek]) ?_
              simp only [xw, p0, p1, p2, p3]
              go_wp2
              go_round
              case rel => exact ⟨i + 1, s, M, by have := hi5.out; omega, rfl, hM.out.mono (by omega), by have := hSt.out.up.up; rwa [show 2 * i + 1 + 1 = 2 * (i + 1) by omega] at this, hE.out, Hbo.out⟩
              case measure => have := hi5.out; simp [intOf]; omega
    · go_upto_region 5 with (fail)
      go_cut [45] from 38 to 93 (fun t wc => t = .bool false ∧ wc = wr)
      case first =>
        by_cases hin : i < nn
        · have i1 : Hid ((i : Int) < (nn : Int)) := by show (i : Int) < (nn : Int); omega
          have i2 : Hid (¬ (i : Int) < 50) := by have := hlt; show ¬ (i : Int) < 50; omega
          refine wp_region_lit ?_
          refine xm [some (.int .i64 (i : Int)), some (.slice oL nn cp), some (.int .i64 (nn : Int)), some (.bool true), some (.bool true), some (.int .i64 (i : Int)), some (.bool false), some (.bool false)] (by kernel_rfl) (by simp [xr, go_sem, i1.out, i2.out]) ?_
          simp only [xw, p0, p1, p2, p3]
          go_wp2_with fail
          go_meet
          exact ⟨rfl, rfl⟩
        · have i1 : Hid (¬ (i : Int) < (nn : Int)) := by show ¬ (i : Int) < (nn : Int); omega
          refine wp_region_lit ?_
          refine xm [some (.int .i64 (i : Int)), some (.slice oL nn cp), some (.int .i64 (nn : Int)), some (.bool false), some (.bool false), none, none, some (.bool false)] (by kernel_rfl) (by simp [xr, go_sem, i1.out]) ?_
          simp only [xw, p0, p1, p2, p3]
          go_wp2_with fail
          go_meet
          exact ⟨rfl, rfl⟩
      case rest =>
        obtain ⟨rfl, hwc⟩ := hcut
        subst hwc
        clear hlt hi
        go_upto_region 13 with (fail)
        refine wp_region_lit ?_
        refine xm [some (.pointer (some ⟨p, 0, none⟩))] (by kernel_rfl) (by simp [xr, go_sem]) ?_
        simp only [xw, p0, p1, p2, p3]
        have hBy := hideit (Below.size hE.out)
        have hFl := hideit hM.out.lt
        have hbl := hideit Hbo.out.2.2
        refine wpList_call rfl (by simp [go_sem]) ((fork_any s hM.out).mono ?_)
        rintro e y3 ⟨G, q, N, rfl, hN, hG, hX3⟩
        refine ⟨_, rfl, ?_⟩
        simp only [Act.put, List.setIfInBounds_toArray, List.set_cons_zero, List.set_cons_succ]
        replace Hbo := hideit (Hbo.out.carry hX3)
        replace hM := hideit (hM.out.ext hX3)
        replace hE := hideit (Ext.trans hE.out (hX3))
        replace hN := hideit hN
        have hGF : Hid (∀ j, G j → ¬ F j) := fun j e1 e2 => by have := hG j e1; have := hFl.out j e2; omega
        have hbG : Hid (¬ G bo) := fun e => by have := hG bo e; have := hbl.out; omega
        have hGw : Hid (∀ j, G j → w.heap.size ≤ j) := fun j e => Nat.le_trans hBy.out (hG j e)
        clear hX3 hG hBy hFl hbl
        refine xm [some (.pointer (some ⟨q, 0, none⟩))] (by kernel_rfl) (by simp [xr, go_sem]) ?_
        simp only [xw, p0, p1, p2, p3]
        go_upto_region 14 with (fail)
        refine wp_region_lit ?_
        refine xm [some (.pointer (some ⟨q, 0, none⟩)), some (.bool false)] (by kernel_rfl) (by simp [xr, go_sem]) ?_
        simp only [xw, p0, p1, p2, p3]
        go_upto_region 16 with (fail)
        refine wp_region_lit ?_
        refine xm [some (.int .i64 0)] (by kernel_rfl) (by simp [xr, go_sem]) ?_
        simp only [xw, p0, p1, p2, p3]
        go_upto_region 17 with (fail)
        refine wp_region_lit ?_
        have m8 : y3.cell? ⟨bo, 0, none⟩ = some (.int .i64 (k)) := Hbo.out.1 0 (by decide)
        refine xm [some (.pointer (some ⟨bo, 0, none⟩)), some (.int .i64 (k))] (by kernel_rfl) (by simp [xr, go_sem, m8]) ?_
        simp only [xw, p0, p1, p2, p3]
        clear m8
        go_upto_block 2 with fail
        go_cut [9] (fun t wc => ∃ (c : Int) (s9 : MSt) (N9 : MLoc), t = .int .i64 c ∧ Stp s s9 (2 * i) c ∧ MdM F p s (1 + i) M wc ∧ MdM G q s9 (1 + i + 1) N9 wc ∧ Ext w wc ∧ RowAt bo 5 (opV k n o1 l1 c1 o2 l2 c2 ko kl kc) wc)
        case first =>
          by_cases e4 : k = 4
          · have q4 := hideit e4
            clear e4
            go_upto_region 19 with (fail)
            refine wp_region_lit ?_
            refine xm [some (.bool true), some (.bool true)] (by kernel_rfl) (by simp [xr, go_sem, q4.out]) ?_
            simp only [xw, p0, p1, p2, p3]
            go_upto_region 20 with (fail)
            refine wp_region_lit ?_
            have m9 : y3.cell? ⟨bo, 1, none⟩ = some (.int .i64 (n)) := Hbo.out.1 1 (by decide)
            have m10 : y3.cell? ⟨bo, 3, none⟩ = some (.slice o2 l2 c2) := Hbo.out.1 3 (by decide)
            refine xm [some (.pointer (some ⟨q, 0, none⟩)), some (.pointer (some ⟨bo, 1, none⟩)), some (.int .i64 (n)), some (.pointer (some ⟨bo, 3, none⟩)), some (.slice o2 l2 c2)] (by kernel_rfl) (by simp [xr, go_sem, m9, m10]) ?_
            simp only [xw, p0, p1, p2, p3]
            clear m9
            clear m10
            refine wpList_call rfl (by simp [go_sem]) ((addK s hN.out (2 * i) hSt.out hi9.out n o2 l2 c2 (hP2.out.ext hE.out) hn.out hC9.out).mono ?_)
            rintro e y4 ⟨c, s9, N9, rfl, hst, hN9, hK9⟩
            refine ⟨_, rfl, ?_⟩
            simp only [Act.put, List.setIfInBounds_toArray, List.set_cons_zero, List.set_cons_succ]
            replace hM := hideit (hM.out.keep hK9 (fun j e1 e2 => hGF.out j e2 e1) hN.out.nb)
            replace hN := hideit hN9
            replace hE := hideit (Ext.keeps hE.out hK9 hGw.out)
            replace Hbo := hideit (Hbo.out.keep hK9 hbG.out)
            replace hst := hideit hst
            clear hN9 hK9
            refine xm [some (.int .i64 (c))] (by kernel_rfl) (by simp [xr, go_sem]) ?_
            simp only [xw, p0, p1, p2, p3]
            go_wp2_with fail
            go_meet
            exact ⟨c, s9, N9, rfl, hst.out, hM.out, hN.out, hE.out, Hbo.out⟩
          · have q4 := hideit e4
            clear e4
            by_cases e5 : k = 5
            · have q5 := hideit e5
              clear e5
              go_upto_region 19 with (fail)
              refine wp_region_lit ?_
              refine xm [some (.bool false), some (.bool false)] (by kernel_rfl) (by simp [xr, go_sem, q4.out]) ?_
              simp only [xw, p0, p1, p2, p3]
              go_upto_region 21 with (fail)
              refine wp_region_lit ?_
              refine xm [some (.bool true), some (.bool true)] (by kernel_rfl) (by simp [xr, go_sem, q5.out]) ?_
              simp only [xw, p0, p1, p2, p3]
              go_upto_region 22 with (fail)
              refine wp_region_lit ?_
              have m9 : y3.cell? ⟨bo, 1, none⟩ = some (.int .i64 (n)) := Hbo.out.1 1 (by decide)
              refine xm [some (.pointer (some ⟨q, 0, none⟩)), some (.pointer (some ⟨bo, 1, none⟩)), some (.int .i64 (n))] (by kernel_rfl) (by simp [xr, go_sem, m9]) ?_
              simp only [xw, p0, p1, p2, p3]
              clear m9
              refine wpList_call rfl (by simp [go_sem]) ((revK s hN.out (2 * i) hSt.out hi9.out n hn.out).mono ?_)
              rintro e y4 ⟨c, s9, N9, rfl, hst, hN9, hK9⟩
              refine ⟨_, rfl, ?_⟩
              simp only [Act.put, List.setIfInBounds_toArray, List.set_cons_zero, List.set_cons_succ]
              replace hM := hideit (hM.out.keep hK9 (fun j e1 e2 => hGF.out j e2 e1) hN.out.nb)
              replace hN := hideit hN9
              replace hE := hideit (Ext.keeps hE.out hK9 hGw.out)
              replace Hbo := hideit (Hbo.out.keep hK9 hbG.out)
              replace hst := hideit hst
              clear hN9 hK9
              refine xm [some (.int .i64 (c))] (by kernel_rfl) (by simp [xr, go_sem]) ?_
              simp only [xw, p0, p1, p2, p3]
              go_wp2_with fail
              go_meet
              exact ⟨c, s9, N9, rfl, hst.out, hM.out, hN.out, hE.out, Hbo.out⟩
            · have q5 := hideit e5
              clear e5
              by_cases e6 : k = 6
              · have q6 := hideit e6
                clear e6
                go_upto_region 19 with (fail)
                refine wp_region_lit ?_
                refine xm [some (.bool false), some (.bool false)] (by kernel_rfl) (by simp [xr, go_sem, q4.out]) ?_
                simp only [xw, p0, p1, p2, p3]
                go_upto_region 21 with (fail)
                refine wp_region_lit ?_
                refine xm [some (.bool false), some (.bool false)] (by kernel_rfl) (by simp [xr, go_sem, q5.out]) ?_
                simp only [xw, p0, p1, p2, p3]
                go_upto_region 23 with (fail)
                refine wp_region_lit ?_
                refine xm [some (.bool true), some (.bool true)] (by kernel_rfl) (by simp [xr, go_sem, q6.out]) ?_
                simp only [xw, p0, p1, p2, p3]
                go_upto_region 24 with (fail)
                refine wp_region_lit ?_
                refine xm [some (.pointer (some ⟨q, 0, none⟩))] (by kernel_rfl) (by simp [xr, go_sem]) ?_
                simp only [xw, p0, p1, p2, p3]
                refine wpList_call rfl (by simp [go_sem]) ((startK s hN.out (2 * i) hSt.out hi9.out ).mono ?_)
                rintro e y4 ⟨c, s9, N9, rfl, hst, hN9, hK9⟩
                refine ⟨_, rfl, ?_⟩
                simp only [Act.put, List.setIfInBounds_toArray, List.set_cons_zero, List.set_cons_succ]
                replace hM := hideit (hM.out.keep hK9 (fun j e1 e2 => hGF.out j e2 e1) hN.out.nb)
                replace hN := hideit hN9
                replace hE := hideit (Ext.keeps hE.out hK9 hGw.out)
                replace Hbo := hideit (Hbo.out.keep hK9 hbG.out)
                replace hst := hideit hst
                clear hN9 hK9
                refine xm [some (.int .i64 (c))] (by kernel_rfl) (by simp [xr, go_sem]) ?_
                simp only [xw, p0, p1, p2, p3]
                go_wp2_with fail
                go_meet
                exact ⟨c, s9, N9, rfl, hst.out, hM.out, hN.out, hE.out, Hbo.out⟩
              · have q6 := hideit e6
                clear e6
                by_cases e7 : k = 7
                · have q7 := hideit e7
                  clear e7
                  go_upto_region 19 with (fail)
                  refine wp_region_lit ?_
                  refine xm [some (.bool false), some (.bool false)] (by kernel_rfl) (by simp [xr, go_sem, q4.out]) ?_
                  simp only [xw, p0, p1, p2, p3]
                  go_upto_region 21 with (fail)
                  refine wp_region_lit ?_
                  refine xm [some (.bool false), some (.bool false)] (by kernel_rfl) (by simp [xr, go_sem, q5.out]) ?_
                  simp only [xw, p0, p1, p2, p3]
                  go_upto_region 23 with (fail)
                  refine wp_region_lit ?_
                  refine xm [some (.bool false), some (.bool false)] (by kernel_rfl) (by simp [xr, go_sem, q6.out]) ?_
                  simp only [xw, p0, p1, p2, p3]
                  go_upto_region 25 with (fail)
                  refine wp_region_lit ?_
                  refine xm [some (.bool true), some (.bool true)] (by kernel_rfl) (by simp [xr, go_sem, q7.out]) ?_
                  simp only [xw, p0, p1, p2, p3]
                  go_upto_region 26 with (fail)
                  refine wp_region_lit ?_
                  refine xm [some (.pointer (some ⟨q, 0, none⟩))] (by kernel_rfl) (by simp [xr, go_sem]) ?_
                  simp only [xw, p0, p1, p2, p3]
                  refine wpList_call rfl (by simp [go_sem]) ((stepK s hN.out (2 * i) hSt.out hi9.out ).mono ?_)
                  rintro e y4 ⟨d, c, s9, N9, rfl, hst, hN9, hK9⟩
                  refine ⟨_, rfl, ?_⟩
                  simp only [Act.put, List.setIfInBounds_toArray, List.set_cons_zero, List.set_cons_succ]
                  replace hM := hideit (hM.out.keep hK9 (fun j e1 e2 => hGF.out j e2 e1) hN.out.nb)
                  replace hN := hideit hN9
                  replace hE := hideit (Ext.keeps hE.out hK9 hGw.out)
                  replace Hbo := hideit (Hbo.out.keep hK9 hbG.out)
                  replace hst := hideit hst
                  clear hN9 hK9
                  refine xm [some (.tuple #[.bool d, .int .i64 (c)]), some (.bool d), some (.int .i64 (c)), some (.int .i64 (c))] (by kernel_rfl) (by simp [xr, go_sem]) ?_
                  simp only [xw, p0, p1, p2, p3]
                  go_wp2_with fail
                  go_meet
                  exact ⟨c, s9, N9, rfl, hst.out, hM.out, hN.out, hE.out, Hbo.out⟩
                · have q7 := hideit e7
                  clear e7
                  go_upto_region 19 with (fail)
                  refine wp_region_lit ?_
                  refine xm [some (.bool false), some (.bool false)] (by kernel_rfl) (by simp [xr, go_sem, q4.out]) ?_
                  simp only [xw, p0, p1, p2, p3]
                  go_upto_region 21 with (fail)
                  refine wp_region_lit ?_
                  refine xm [some (.bool false), some (.bool false)] (by kernel_rfl) (by simp [xr, go_sem, q5.out]) ?_
                  simp only [xw, p0, p1, p2, p3]
                  go_upto_region 23 with (fail)
                  refine wp_region_lit ?_
                  refine xm [some (.bool false), some (.bool false)] (by kernel_rfl) (by simp [xr, go_sem, q6.out]) ?_
                  simp only [xw, p0, p1, p2, p3]
                  go_upto_region 25 with (fail)
                  refine wp_region_lit ?_
                  refine xm [some (.bool false), some (.bool false)] (by kernel_rfl) (by simp [xr, go_sem, q7.out]) ?_
                  simp only [xw, p0, p1, p2, p3]
                  go_upto_region 18 with (fail)
                  refine wp_region_lit ?_
                  have m9 : y3.cell? ⟨bo, 1, none⟩ = some (.int .i64 (n)) := Hbo.out.1 1 (by decide)
                  have m10 : y3.cell? ⟨bo, 2, none⟩ = some (.slice o1 l1 c1) := Hbo.out.1 2 (by decide)
                  refine xm [some (.pointer (some ⟨q, 0, none⟩)), some (.pointer (some ⟨bo, 1, none⟩)), some (.int .i64 (n)), some (.pointer (some ⟨bo, 2, none⟩)), some (.slice o1 l1 c1)] (by kernel_rfl) (by simp [xr, go_sem, m9, m10]) ?_
                  simp only [xw, p0, p1, p2, p3]
                  clear m9
                  clear m10
                  refine wpList_call rfl (by simp [go_sem]) ((writeK s hN.out (2 * i) hSt.out hi9.out n o1 l1 c1 (hP1.out.ext hE.out) hn.out hC9.out).mono ?_)
                  rintro e y4 ⟨c, s9, N9, rfl, hst, hN9, hK9⟩
                  refine ⟨_, rfl, ?_⟩
                  simp only [Act.put, List.setIfInBounds_toArray, List.set_cons_zero, List.set_cons_succ]
                  replace hM := hideit (hM.out.keep hK9 (fun j e1 e2 => hGF.out j e2 e1) hN.out.nb)
                  replace hN := hideit hN9
                  replace hE := hideit (Ext.keeps hE.out hK9 hGw.out)
                  replace Hbo := hideit (Hbo.out.keep hK9 hbG.out)
                  replace hst := hideit hst
                  clear hN9 hK9
                  refine xm [some (.int .i64 (c))] (by kernel_rfl) (by simp [xr, go_sem]) ?_
                  simp only [xw, p0, p1, p2, p3]
                  go_wp2_with fail
                  go_meet
                  exact ⟨c, s9, N9, rfl, hst.out, hM.out, hN.out, hE.out, Hbo.out⟩
        case rest =>
          obtain ⟨c, s9, N9, rfl, hst, hM2, hN2, hE2, Hb2⟩ := hcut
          clear hM hN hE Hbo
          have hM := hideit hM2
          have hN := hideit hN2
          have hE := hideit hE2
          have Hbo := hideit Hb2
          replace hst := hideit hst
          clear hM2 hN2 hE2 Hb2
          obtain ⟨na, hna⟩ : ∃ m, (wrL s).length = m := ⟨_, rfl⟩
          have hnB : Hid (na ≤ 9007199254740992) := by
            have a1 := wrL_len s
            have a2 := hSt.out.rt.1.1.2.1
            rw [hna] at a1
            show na ≤ 9007199254740992
            omega
          replace hna := hideit hna
          by_cases hc : c = 0
          · obtain ⟨nb, hnb⟩ : ∃ m, (wrL s9).length = m := ⟨_, rfl⟩
            have hle : Hid ((na : Int) ≤ (nb : Int)) := by have := hst.out.wr hc; rw [hna.out, hnb] at this; show (na : Int) ≤ (nb : Int); omega
            have hge : Hid ((s.r.ct.toNat : Int) ≤ (s9.r.ct.toNat : Int)) := by have := hst.out.ct hc; show (s.r.ct.toNat : Int) ≤ (s9.r.ct.toNat : Int); omega
            replace hnb := hideit hnb
            replace hc := hideit hc
            go_upto_region 27 with (fail)
            refine wp_region_lit ?_
            refine xm [some (.pointer (some ⟨p, 0, none⟩))] (by kernel_rfl) (by simp [xr, go_sem]) ?_
            simp only [xw, p0, p1, p2, p3]
            refine wpList_call rfl (by simp [go_sem]) ((info_open s hM.out hSt.out.op hSt.out.rt).mono ?_)
            rintro e y5 ⟨zx, rfl, hx1, hx2, hX5⟩
            refine ⟨_, rfl, ?_⟩
            simp only [Act.put, List.setIfInBounds_toArray, List.set_cons_zero, List.set_cons_succ]
            replace Hbo := hideit (Hbo.out.carry hX5)
            replace hM := hideit (hM.out.ext hX5)
            replace hN := hideit (hN.out.ext hX5)
            replace hE := hideit (Ext.trans hE.out (hX5))
            have hzx := hideit hx2
            clear hx1 hx2 hX5
            refine xm [some (.tuple #[.agg (row 29 (ifS s zx)).toArray, .int .i64 0]), some (.agg (row 29 (ifS s zx)).toArray), some (.int .i64 0)] (by kernel_rfl) (by simp [xr, go_sem]) ?_
            simp only [xw, p0, p1, p2, p3]
            refine wpList_to rfl (.pointer (some ⟨y5.heap.size, 0, none⟩)) (y5.alloc (.cells (row 29 (ifV zH 0 (.slice none 0 0) 0 0 0#64)).toArray 40)) (xalloc 40 _ rfl (zero40 _)) ?_
            simp only [Act.put, List.setIfInBounds_toArray, List.set_cons_zero, List.set_cons_succ]
            have N0 := hideit ((RowAt.new y5 29 (ifV zH 0 (.slice none 0 0) 0 0 0#64) 40).cells (g' := ifS s zx))
            have XE : Ext y5 ((y5.alloc (.cells (row 29 (ifV zH 0 (.slice none 0 0) 0 0 0#64)).toArray 40)).setCells y5.heap.size 0 (row 29 (ifS s zx))) := below_setCells y5.heap.size (Nat.le_refl _) _ 0 _ ((Below.refl _ _).alloc (Nat.le_refl _) _)
            have Dbx_0 : Hid (bo ≠ y5.heap.size) := Nat.ne_of_lt Hbo.out.2.2
            have Dbx_1 : Hid (zx ≠ y5.heap.size) := Nat.ne_of_lt hzx.out.2.2
            refine xst rfl ((y5.alloc (.cells (row 29 (ifV zH 0 (.slice none 0 0) 0 0 0#64)).toArray 40)).setCells y5.heap.size 0 (row 29 (ifS s zx))) (xstore 40 (.tmp 10) (.tmp 133) rfl y5.heap.size 29 _ (ifS s zx) rfl rfl (RowAt.new y5 29 (ifV zH 0 (.slice none 0 0) 0 0 0#64) 40) infoI (fun j _ => ifs_one _ _ j)) ?_
            simp only [Act.put]
            generalize (y5.alloc (.cells (row 29 (ifV zH 0 (.slice none 0 0) 0 0 0#64)).toArray 40)).setCells y5.heap.size 0 (row 29 (ifS s zx)) = x9 at N0 XE ⊢
            obtain ⟨bx, ebx⟩ : ∃ b, b = y5.heap.size := ⟨_, rfl⟩
            have ABbx : Hid (w.heap.size ≤ bx) := by rw [ebx]; exact hE.out.size
            rw [← ebx] at N0 Dbx_0 Dbx_1 ⊢
            clear ebx
            have Hbx := N0
            clear N0
            replace Hbo := hideit (Hbo.out.carry XE)
            replace hzx := hideit (hzx.out.carry XE)
            replace hM := hideit (hM.out.ext XE)
            replace hN := hideit (hN.out.ext XE)
            replace hE := hideit (Ext.trans hE.out (XE))
            clear XE
            refine xm [some (.int .i64 0)] (by kernel_rfl) (by simp [xr, go_sem]) ?_
            simp only [xw, p0, p1, p2, p3]
            go_upto_region 28 with (fail)
            refine wp_region_lit ?_
            refine xm [some (.pointer (some ⟨q, 0, none⟩))] (by kernel_rfl) (by simp [xr, go_sem]) ?_
            simp only [xw, p0, p1, p2, p3]
            refine wpList_call rfl (by simp [go_sem]) ((info_open s9 hN.out hst.out.ok.op hst.out.ok.rt).mono ?_)
            rintro e y6 ⟨zy, rfl, hx1, hx2, hX5⟩
            refine ⟨_, rfl, ?_⟩
            simp only [Act.put, List.setIfInBounds_toArray, List.set_cons_zero, List.set_cons_succ]
            replace Hbo := hideit (Hbo.out.carry hX5)
            replace hzx := hideit (hzx.out.carry hX5)
            replace Hbx := hideit (Hbx.out.carry hX5)
            replace hM := hideit (hM.out.ext hX5)
            replace hN := hideit (hN.out.ext hX5)
            replace hE := hideit (Ext.trans hE.out (hX5))
            have hzy := hideit hx2
            clear hx1 hx2 hX5
            refine xm [some (.tuple #[.agg (row 29 (ifS s9 zy)).toArray, .int .i64 0]), some (.agg (row 29 (ifS s9 zy)).toArray), some (.int .i64 0)] (by kernel_rfl) (by simp [xr, go_sem]) ?_
            simp only [xw, p0, p1, p2, p3]
            refine wpList_to rfl (.pointer (some ⟨y6.heap.size, 0, none⟩)) (y6.alloc (.cells (row 29 (ifV zH 0 (.slice none 0 0) 0 0 0#64)).toArray 40)) (xalloc 40 _ rfl (zero40 _)) ?_
            simp only [Act.put, List.setIfInBounds_toArray, List.set_cons_zero, List.set_cons_succ]
            have N0 := hideit ((RowAt.new y6 29 (ifV zH 0 (.slice none 0 0) 0 0 0#64) 40).cells (g' := ifS s9 zy))
            have XE : Ext y6 ((y6.alloc (.cells (row 29 (ifV zH 0 (.slice none 0 0) 0 0 0#64)).toArray 40)).setCells y6.heap.size 0 (row 29 (ifS s9 zy))) := below_setCells y6.heap.size (Nat.le_refl _) _ 0 _ ((Below.refl _ _).alloc (Nat.le_refl _) _)
            have Dby__0 : Hid (bo ≠ y6.heap.size) := Nat.ne_of_lt Hbo.out.2.2
            have Dby__1 : Hid (zx ≠ y6.heap.size) := Nat.ne_of_lt hzx.out.2.2
            have Dby__2 : Hid (bx ≠ y6.heap.size) := Nat.ne_of_lt Hbx.out.2.2
            have Dby__3 : Hid (zy ≠ y6.heap.size) := Nat.ne_of_lt hzy.out.2.2
            refine xst rfl ((y6.alloc (.cells (row 29 (ifV zH 0 (.slice none 0 0) 0 0 0#64)).toArray 40)).setCells y6.heap.size 0 (row 29 (ifS s9 zy))) (xstore 40 (.tmp 12) (.tmp 138) rfl y6.heap.size 29 _ (ifS s9 zy) rfl rfl (RowAt.new y6 29 (ifV zH 0 (.slice none 0 0) 0 0 0#64) 40) infoI (fun j _ => ifs_one _ _ j)) ?_
            simp only [Act.put]
            generalize (y6.alloc (.cells (row 29 (ifV zH 0 (.slice none 0 0) 0 0 0#64)).toArray 40)).setCells y6.heap.size 0 (row 29 (ifS s9 zy)) = x10 at N0 XE ⊢
            obtain ⟨by_, eby_⟩ : ∃ b, b = y6.heap.size := ⟨_, rfl⟩
            have ABby_ : Hid (w.heap.size ≤ by_) := by rw [eby_]; exact hE.out.size
            rw [← eby_] at N0 Dby__0 Dby__1 Dby__2 Dby__3 ⊢
            clear eby_
            have Hby_ := N0
            clear N0
            replace Hbo := hideit (Hbo.out.carry XE)
            replace hzx := hideit (hzx.out.carry XE)
            replace Hbx := hideit (Hbx.out.carry XE)
            replace hzy := hideit (hzy.out.carry XE)
            replace hM := hideit (hM.out.ext XE)
            replace hN := hideit (hN.out.ext XE)
            replace hE := hideit (Ext.trans hE.out (XE))
            clear XE
            refine xm [some (.int .i64 0)] (by kernel_rfl) (by simp [xr, go_sem]) ?_
            simp only [xw, p0, p1, p2, p3]
            go_upto_region 29 with (fail)
            refine wp_region_lit ?_
            have m11 : x10.cell? ⟨by_, 28, none⟩ = some (.int .u64 (s9.r.ct.toNat : Int)) := Hby_.out.1 28 (by decide)
            have m12 : x10.cell? ⟨bx, 28, none⟩ = some (.int .u64 (s.r.ct.toNat : Int)) := Hbx.out.1 28 (by decide)
            refine xm [some (.int .i64 (c)), some (.bool true), some (.bool true), some (.pointer (some ⟨by_, 28, none⟩)), some (.int .u64 (s9.r.ct.toNat : Int)), some (.pointer (some ⟨bx, 28, none⟩)), some (.int .u64 (s.r.ct.toNat : Int)), some (.bool true), some (.bool true), some (.bool true), some (.pointer (some ⟨p, 0, none⟩))] (by kernel_rfl) (by simp [xr, go_sem, hc.out, m11, m12, hge.out]) ?_
            simp only [xw, p0, p1, p2, p3]
            clear m11
            clear m12
            refine wpList_callW rfl (by simp [go_sem]) ((writtenN s hM.out na hna.out).mono ?_)
            rintro e ya ⟨oa, ca, rfl, hLa, hX8⟩
            refine ⟨_, rfl, ?_⟩
            simp only [Act.put, List.setIfInBounds_toArray, List.set_cons_zero, List.set_cons_succ]
            replace Hbo := hideit (Hbo.out.carry hX8)
            replace hzx := hideit (hzx.out.carry hX8)
            replace Hbx := hideit (Hbx.out.carry hX8)
            replace hzy := hideit (hzy.out.carry hX8)
            replace Hby_ := hideit (Hby_.out.carry hX8)
            replace hM := hideit (hM.out.ext hX8)
            replace hN := hideit (hN.out.ext hX8)
            replace hE := hideit (Ext.trans hE.out (hX8))
            replace hLa := hideit hLa
            clear hX8
            refine xm [some (.int .i64 (na : Int)), some (.pointer (some ⟨q, 0, none⟩))] (by kernel_rfl) (by simp [xr, go_sem]) ?_
            simp only [xw, p0, p1, p2, p3]
            refine wpList_callW rfl (by simp [go_sem]) ((writtenN s9 hN.out nb hnb.out).mono ?_)
            rintro e yb ⟨ob, cb, rfl, hLb, hX8⟩
            refine ⟨_, rfl, ?_⟩
            simp only [Act.put, List.setIfInBounds_toArray, List.set_cons_zero, List.set_cons_succ]
            replace Hbo := hideit (Hbo.out.carry hX8)
            replace hzx := hideit (hzx.out.carry hX8)
            replace Hbx := hideit (Hbx.out.carry hX8)
            replace hzy := hideit (hzy.out.carry hX8)
            replace Hby_ := hideit (Hby_.out.carry hX8)
            replace hM := hideit (hM.out.ext hX8)
            replace hN := hideit (hN.out.ext hX8)
            replace hLa := hideit (hLa.out.ext hX8)
            replace hE := hideit (Ext.trans hE.out (hX8))
            replace hLb := hideit hLb
            clear hX8
            refine xm [some (.int .i64 (nb : Int)), some (.bool true), some (.bool true), some (.bool true), none, none, none, none, none, none, none, none, none, none, none, none, none, none, some (.bool true), some (.bool true)] (by kernel_rfl) (by simp [xr, go_sem, hle.out]) ?_
            simp only [xw, p0, p1, p2, p3]
            go_wp2
            go_ret
            exact ⟨rfl, hE.out⟩
          · have e9 := hst.out.no hc
            have hN2 := hN.out
            rw [e9] at hN2
            replace hN := hideit hN2
            replace hc := hideit hc
            clear hN2 e9 hst
            go_upto_region 27 with (fail)
            refine wp_region_lit ?_
            refine xm [some (.pointer (some ⟨p, 0, none⟩))] (by kernel_rfl) (by simp [xr, go_sem]) ?_
            simp only [xw, p0, p1, p2, p3]
            refine wpList_call rfl (by simp [go_sem]) ((info_open s hM.out hSt.out.op hSt.out.rt).mono ?_)
            rintro e y5 ⟨zx, rfl, hx1, hx2, hX5⟩
            refine ⟨_, rfl, ?_⟩
            simp only [Act.put, List.setIfInBounds_toArray, List.set_cons_zero, List.set_cons_succ]
            replace Hbo := hideit (Hbo.out.carry hX5)
            replace hM := hideit (hM.out.ext hX5)
            replace hN := hideit (hN.out.ext hX5)
            replace hE := hideit (Ext.trans hE.out (hX5))
            have hzx := hideit hx2
            clear hx1 hx2 hX5
            refine xm [some (.tuple #[.agg (row 29 (ifS s zx)).toArray, .int .i64 0]), some (.agg (row 29 (ifS s zx)).toArray), some (.int .i64 0)] (by kernel_rfl) (by simp [xr, go_sem]) ?_
            simp only [xw, p0, p1, p2, p3]
            refine wpList_to rfl (.pointer (some ⟨y5.heap.size, 0, none⟩)) (y5.alloc (.cells (row 29 (ifV zH 0 (.slice none 0 0) 0 0 0#64)).toArray 40)) (xalloc 40 _ rfl (zero40 _)) ?_
            simp only [Act.put, List.setIfInBounds_toArray, List.set_cons_zero, List.set_cons_succ]
            have N0 := hideit ((RowAt.new y5 29 (ifV zH 0 (.slice none 0 0) 0 0 0#64) 40).cells (g' := ifS s zx))
            have XE : Ext y5 ((y5.alloc (.cells (row 29 (ifV zH 0 (.slice none 0 0) 0 0 0#64)).toArray 40)).setCells y5.heap.size 0 (row 29 (ifS s zx))) := below_setCells y5.heap.size (Nat.le_refl _) _ 0 _ ((Below.refl _ _).alloc (Nat.le_refl _) _)
            have Dbx_0 : Hid (bo ≠ y5.heap.size) := Nat.ne_of_lt Hbo.out.2.2
            have Dbx_1 : Hid (zx ≠ y5.heap.size) := Nat.ne_of_lt hzx.out.2.2
            refine xst rfl ((y5.alloc (.cells (row 29 (ifV zH 0 (.slice none 0 0) 0 0 0#64)).toArray 40)).setCells y5.heap.size 0 (row 29 (ifS s zx))) (xstore 40 (.tmp 10) (.tmp 133) rfl y5.heap.size 29 _ (ifS s zx) rfl rfl (RowAt.new y5 29 (ifV zH 0 (.slice none 0 0) 0 0 0#64) 40) infoI (fun j _ => ifs_one _ _ j)) ?_
            simp only [Act.put]
            generalize (y5.alloc (.cells (row 29 (ifV zH 0 (.slice none 0 0) 0 0 0#64)).toArray 40)).setCells y5.heap.size 0 (row 29 (ifS s zx)) = x9 at N0 XE ⊢
            obtain ⟨bx, ebx⟩ : ∃ b, b = y5.heap.size := ⟨_, rfl⟩
            have ABbx : Hid (w.heap.size ≤ bx) := by rw [ebx]; exact hE.out.size
            rw [← ebx] at N0 Dbx_0 Dbx_1 ⊢
            clear ebx
            have Hbx := N0
            clear N0
            replace Hbo := hideit (Hbo.out.carry XE)
            replace hzx := hideit (hzx.out.carry XE)
            replace hM := hideit (hM.out.ext XE)
            replace hN := hideit (hN.out.ext XE)
            replace hE := hideit (Ext.trans hE.out (XE))
            clear XE
            refine xm [some (.int .i64 0)] (by kernel_rfl) (by simp [xr, go_sem]) ?_
            simp only [xw, p0, p1, p2, p3]
            go_upto_region 28 with (fail)
            refine wp_region_lit ?_
            refine xm [some (.pointer (some ⟨q, 0, none⟩))] (by kernel_rfl) (by simp [xr, go_sem]) ?_
            simp only [xw, p0, p1, p2, p3]
            refine wpList_call rfl (by simp [go_sem]) ((info_open s hN.out hSt.out.op hSt.out.rt).mono ?_)
            rintro e y6 ⟨zy, rfl, hx1, hx2, hX5⟩
            refine ⟨_, rfl, ?_⟩
            simp only [Act.put, List.setIfInBounds_toArray, List.set_cons_zero, List.set_cons_succ]
            replace Hbo := hideit (Hbo.out.carry hX5)
            replace hzx := hideit (hzx.out.carry hX5)
            replace Hbx := hideit (Hbx.out.carry hX5)
            replace hM := hideit (hM.out.ext hX5)
            replace hN := hideit (hN.out.ext hX5)
            replace hE := hideit (Ext.trans hE.out (hX5))
            have hzy := hideit hx2
            clear hx1 hx2 hX5
            refine xm [some (.tuple #[.agg (row 29 (ifS s zy)).toArray, .int .i64 0]), some (.agg (row 29 (ifS s zy)).toArray), some (.int .i64 0)] (by kernel_rfl) (by simp [xr, go_sem]) ?_
            simp only [xw, p0, p1, p2, p3]
            refine wpList_to rfl (.pointer (some ⟨y6.heap.size, 0, none⟩)) (y6.alloc (.cells (row 29 (ifV zH 0 (.slice none 0 0) 0 0 0#64)).toArray 40)) (xalloc 40 _ rfl (zero40 _)) ?_
            simp only [Act.put, List.setIfInBounds_toArray, List.set_cons_zero, List.set_cons_succ]
            have N0 := hideit ((RowAt.new y6 29 (ifV zH 0 (.slice none 0 0) 0 0 0#64) 40).cells (g' := ifS s zy))
            have XE : Ext y6 ((y6.alloc (.cells (row 29 (ifV zH 0 (.slice none 0 0) 0 0 0#64)).toArray 40)).setCells y6.heap.size 0 (row 29 (ifS s zy))) := below_setCells y6.heap.size (Nat.le_refl _) _ 0 _ ((Below.refl _ _).alloc (Nat.le_refl _) _)
            have Dby__0 : Hid (bo ≠ y6.heap.size) := Nat.ne_of_lt Hbo.out.2.2
            have Dby__1 : Hid (zx ≠ y6.heap.size) := Nat.ne_of_lt hzx.out.2.2
            have Dby__2 : Hid (bx ≠ y6.heap.size) := Nat.ne_of_lt Hbx.out.2.2
            have Dby__3 : Hid (zy ≠ y6.heap.size) := Nat.ne_of_lt hzy.out.2.2
            refine xst rfl ((y6.alloc (.cells (row 29 (ifV zH 0 (.slice none 0 0) 0 0 0#64)).toArray 40)).setCells y6.heap.size 0 (row 29 (ifS s zy))) (xstore 40 (.tmp 12) (.tmp 138) rfl y6.heap.size 29 _ (ifS s zy) rfl rfl (RowAt.new y6 29 (ifV zH 0 (.slice none 0 0) 0 0 0#64) 40) infoI (fun j _ => ifs_one _ _ j)) ?_
            simp only [Act.put]
            generalize (y6.alloc (.cells (row 29 (ifV zH 0 (.slice none 0 0) 0 0 0#64)).toArray 40)).setCells y6.heap.size 0 (row 29 (ifS s zy)) = x10 at N0 XE ⊢
            obtain ⟨by_, eby_⟩ : ∃ b, b = y6.heap.size := ⟨_, rfl⟩
            have ABby_ : Hid (w.heap.size ≤ by_) := by rw [eby_]; exact hE.out.size
            rw [← eby_] at N0 Dby__0 Dby__1 Dby__2 Dby__3 ⊢
            clear eby_
            have Hby_ := N0
            clear N0
            replace Hbo := hideit (Hbo.out.carry XE)
            replace hzx := hideit (hzx.out.carry XE)
            replace Hbx := hideit (Hbx.out.carry XE)
            replace hzy := hideit (hzy.out.carry XE)
            replace hM := hideit (hM.out.ext XE)
            replace hN := hideit (hN.out.ext XE)
            replace hE := hideit (Ext.trans hE.out (XE))
            clear XE
            refine xm [some (.int .i64 0)] (by kernel_rfl) (by simp [xr, go_sem]) ?_
            simp only [xw, p0, p1, p2, p3]
            go_upto_region 29 with (fail)
            refine wp_region_lit ?_
            refine xm [some (.int .i64 (c)), some (.bool false), some (.bool false), none, none, none, none, none, some (.bool false), some (.bool false), none, none, none, none, none, none, none, some (.bool false), some (.bool false), some (.int .i64 (c)), some (.bool true), some (.bool true)] (by kernel_rfl) (by simp [xr, go_sem, hc.out]) ?_
            simp only [xw, p0, p1, p2, p3]
            refine wpList_runW rfl (.agg (row 29 (ifS s zx)).toArray) (xload 40 (.tmp 10) rfl bx 0 29 _ rfl Hbx.out.range Try.underlying40 rfl infoI) ?_
            simp only [Act.put, List.setIfInBounds_toArray, List.set_cons_zero, List.set_cons_succ]
            refine wpList_runW rfl (.agg (row 29 (ifS s zy)).toArray) (xload 40 (.tmp 12) rfl by_ 0 29 _ rfl Hby_.out.range Try.underlying40 rfl infoI) ?_
            simp only [Act.put, List.setIfInBounds_toArray, List.set_cons_zero, List.set_cons_succ]
            refine wpList_callW rfl (by simp [go_sem]) ((same_infoS (w := x10) s zx zy hzx.out hzy.out hM.out.okh).mono ?_)
            rintro e y11 ⟨rfl, hX12⟩
            refine ⟨_, rfl, ?_⟩
            simp only [Act.put, List.setIfInBounds_toArray, List.set_cons_zero, List.set_cons_succ]
            replace Hbo := hideit (Hbo.out.carry hX12)
            replace hzx := hideit (hzx.out.carry hX12)
            replace Hbx := hideit (Hbx.out.carry hX12)
            replace hzy := hideit (hzy.out.carry hX12)
            replace Hby_ := hideit (Hby_.out.carry hX12)
            replace hM := hideit (hM.out.ext hX12)
            replace hN := hideit (hN.out.ext hX12)
            replace hE := hideit (Ext.trans hE.out (hX12))

            clear hX12
            refine xm [some (.bool true), some (.bool true), some (.pointer (some ⟨p, 0, none⟩))] (by kernel_rfl) (by simp [xr, go_sem]) ?_
            simp only [xw, p0, p1, p2, p3]
            refine wpList_callW rfl (by simp [go_sem]) ((writtenN s hM.out na hna.out).mono ?_)
            rintro e ya ⟨oa, ca, rfl, hLa, hX8⟩
            refine ⟨_, rfl, ?_⟩
            simp only [Act.put, List.setIfInBounds_toArray, List.set_cons_zero, List.set_cons_succ]
            replace Hbo := hideit (Hbo.out.carry hX8)
            replace hzx := hideit (hzx.out.carry hX8)
            replace Hbx := hideit (Hbx.out.carry hX8)
            replace hzy := hideit (hzy.out.carry hX8)
            replace Hby_ := hideit (Hby_.out.carry hX8)
            replace hM := hideit (hM.out.ext hX8)
            replace hN := hideit (hN.out.ext hX8)
            replace hE := hideit (Ext.trans hE.out (hX8))
            replace hLa := hideit hLa
            clear hX8
            refine xm [some (.pointer (some ⟨q, 0, none⟩))] (by kernel_rfl) (by simp [xr, go_sem]) ?_
            simp only [xw, p0, p1, p2, p3]
            refine wpList_callW rfl (by simp [go_sem]) ((writtenN s hN.out na hna.out).mono ?_)
            rintro e yb ⟨ob, cb, rfl, hLb, hX8⟩
            refine ⟨_, rfl, ?_⟩
            simp only [Act.put, List.setIfInBounds_toArray, List.set_cons_zero, List.set_cons_succ]
            replace Hbo := hideit (Hbo.out.carry hX8)
            replace hzx := hideit (hzx.out.carry hX8)
            replace Hbx := hideit (Hbx.out.carry hX8)
            replace hzy := hideit (hzy.out.carry hX8)
            replace Hby_ := hideit (Hby_.out.carry hX8)
            replace hM := hideit (hM.out.ext hX8)
            replace hN := hideit (hN.out.ext hX8)
            replace hLa := hideit (hLa.out.ext hX8)
            replace hE := hideit (Ext.trans hE.out (hX8))
            replace hLb := hideit hLb
            clear hX8
            refine wpList_callW rfl (by simp [go_sem]) ((same_ints oa ob na ca cb (fun j => (wrL s).getD j 0) yb hLa.out hLb.out hnB.out).mono ?_)
            rintro e y13 ⟨rfl, hX14⟩
            refine ⟨_, rfl, ?_⟩
            simp only [Act.put, List.setIfInBounds_toArray, List.set_cons_zero, List.set_cons_succ]
            replace Hbo := hideit (Hbo.out.carry hX14)
            replace hzx := hideit (hzx.out.carry hX14)
            replace Hbx := hideit (Hbx.out.carry hX14)
            replace hzy := hideit (hzy.out.carry hX14)
            replace Hby_ := hideit (Hby_.out.carry hX14)
            replace hM := hideit (hM.out.ext hX14)
            replace hN := hideit (hN.out.ext hX14)
            replace hLa := hideit (hLa.out.ext hX14)
            replace hE := hideit (Ext.trans hE.out (hX14))

            clear hX14
            refine xm [some (.bool true), some (.bool true), some (.bool true)] (by kernel_rfl) (by simp [xr, go_sem]) ?_
            simp only [xw, p0, p1, p2, p3]
            go_wp2
            go_ret
            exact ⟨rfl, hE.out⟩
end Go.Proofs.Ytcipkfalnjgghaa
namespace Go.Proofs.Ytcipkfalnjgghaa.modelKeeps
open Go.ChangeShapes Go.WideShapes Go.ChangeAt Go.RowKit
set_option linter.unusedVariables false

theorem own : ownKnob Try.prog.godebug = none := by kernel_rfl
theorem laidOut : laidOutB Try.prog = true := by kernel_rfl

theorem walk (oL : Option Addr) (nn cp : Nat) (k n : Int) (o1 : Option Addr) (l1 c1 : Nat) (o2 : Option Addr) (l2 c2 : Nat) (ko : Option Addr) (kl kc : Nat) (w : World) (hops : OpsA oL nn w) (hn : okI n) (hP1 : PB (.slice o1 l1 c1) w) (hP2 : PB (.slice o2 l2 c2) w) : Calls Try.prog 4 #[.slice oL nn cp, .agg #[.int .i64 (k), .int .i64 (n), .slice o1 l1 c1, .slice o2 l2 c2, .slice ko kl kc]] w fun e w' => e = .returned (.bool true) ∧ Below w.heap.size w w' := keeps_any oL nn cp k n o1 l1 c1 o2 l2 c2 ko kl kc w hops hn hP1 hP2

set_option maxRecDepth 100000 in
theorem lifted (os : Os) (started : os.Started) (H : Type) (enc : TypeId × Value → H) :
    ReturnsInHanded {} Try.checked os 4 .any (Rows.modelKeepsSpec.pre6 enc Try.prog Try.f4 Rows.modelKeepsRow.domain false) (Rows.modelKeepsSpec.post enc Try.prog Try.f4 false true false false) := by
  refine returnsInHanded_of_change_sized (C := Try.checked) own started (by kernel_rfl) Try.func4
    (ChangeSpec.witness6 (enc := enc) (C := Try.checked) false ⟨#[], #[.slice none 0 0, .agg #[.int .i64 0, .int .i64 0, .slice none 0 0, .slice none 0 0, .slice none 0 0]], []⟩ 8 (by kernel_rfl) (by kernel_rfl) (by kernel_rfl) (by kernel_rfl)) ?_
  intro W base args ds gs before hval0 hW hcnd hsz0 _
  have hsz := hsz0
  have hval : ∀ (j : Nat) t v, Try.f4.params[j]? = some t → args[j]? = some v → Value.okWide Try.prog W .any base t v := hval0
  have hW' := hW
  obtain ⟨p, q, hA0, hV, rfl, hfz, hnd⟩ := hW
  have hA : DataW.TrodAll enc Try.prog W 0 (fun _ => true) true Try.f4.params.toList args.toList ds p := hA0
  rw [Try.params4] at hA hval hsz
  obtain ⟨v0, vs0, d0, ds0, p0, q0, hargs, rfl, rfl, h0, r0⟩ := trodAll_cons hA
  obtain ⟨v1, vs1, d1, ds1, p1, q1, rfl, rfl, rfl, h1, r1⟩ := trodAll_cons r0
  obtain ⟨rfl, rfl, rfl⟩ := trodAll_nil r1
  obtain rfl : args = #[v0, v1] := by cases args; simp_all
  obtain ⟨rfl, rfl⟩ := trodVars_none hV
  have k0 := h0
  have lt0 : ∀ x ∈ p0, x.block < W.heap.size := by obtain ⟨m, hm⟩ := k0; exact DataW.trod_lt m _ _ _ hm
  have k1 := h1
  have lt1 : ∀ x ∈ p1, x.block < W.heap.size := by obtain ⟨m, hm⟩ := k1; exact DataW.trod_lt m _ _ _ hm
  obtain ⟨xo0, xn0, xc0, rfl, xl0, B0⟩ := opsarg (hval 0 53 v0 rfl rfl) h0
  obtain ⟨xa1, xb1, xc1, xd1, xe1, xf1, xg1, xh1, xi1, xj1, xk1, rfl, y11, y21, y31, y41⟩ := open_opP (hval 1 25 v1 rfl rfl) h1
  clear hA0 hval0
  refine (walk xo0 xn0 xc0 xa1 xb1 xc1 xd1 xe1 xf1 xg1 xh1 xi1 xj1 xk1 W  B0  y21 y31 y41).mono fun e W' ⟨he, bel⟩ => ?_
  subst he
  exact ⟨_, rfl, _, _, _, [], _, [], hW', trodAll_mk1 (shut_bool Try.underlying4 _), (trodAll_cons_mk (Below.trod laidOut (by kernel_rfl) (of_decide_eq_true (by kernel_rfl)) k0 bel lt0) (trodAll_cons_mk (Below.trod laidOut (by kernel_rfl) (of_decide_eq_true (by kernel_rfl)) k1 bel lt1) trodAll_mk0)), rfl, bel.frame _, fun h => by cases h⟩

theorem over : Rows.modelKeepsRow.holds Try.pinned (OpenSpec.ofChange Rows.modelKeepsSpec) :=
  OpenClaim.holds_of_wide 4 Try.f4 rfl rfl rfl rfl rfl rfl rfl ⟨rfl, rfl, rfl, rfl, rfl⟩ rfl rfl rfl rfl rfl (by kernel_rfl) Try.func4 (by kernel_rfl)
    (of_decide_eq_true (by kernel_rfl)) (by unfold Func.isWrapper; first | (rw [if_pos (by decide +kernel)]; kernel_rfl) | (rw [if_neg (by decide +kernel)]; exact ⟨rfl, rfl⟩))
    (fun os started H enc _ => lifted os started H enc)
end Go.Proofs.Ytcipkfalnjgghaa.modelKeeps
namespace Go.Proofs.Ytcipkfalnjgghaa
theorem modelKeeps_holds : Rows.ModelKeepsSaid := modelKeeps.over
end Go.Proofs.Ytcipkfalnjgghaa
