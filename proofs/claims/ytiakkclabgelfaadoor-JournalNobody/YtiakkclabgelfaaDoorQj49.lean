/-
  Transactions refused. A block made of some bytes, again and again.
-/
import Derived.Test.YtiakkclabgelfaaDoorQj1
import Derived.Test.YtiakkclabgelfaaDoorQj44
import Derived.Test.YtiakkclabgelfaaDoorQj32
import Derived.Test.YtiakkclabgelfaaDoorQj16
namespace Go.Proofs.YtiakkclabgelfaaDoor
open Go.RowKit Go.BigFrame Go.Maps
set_option linter.unusedVariables false
set_option maxRecDepth 20000
set_option maxRecDepth 20000 in
set_option maxHeartbeats 4000000 in
theorem append_full1 (j p fi co : Nat) (nu : BitVec 64) (us9 : Nat) (F : Nat → Prop) (N : Nat) (A D : Nat → Nat → BitVec 8) (C : Nat) (v0 : Value) (n : Nat) (bs : Nat → Int) (us : Nat → Value) (ls : Nat → Nat) (fs : Nat → Nat → BitVec 8) (w : World) (hJ : JR j p fi co nu us9 true F N A D C w) (hL : RLs v0 n bs us ls fs w) (hn : n ≤ 1000000) (hbi : ∀ i, i < n → okI (bs i)) (hT : TabC w) (hyes : okT nu n bs ls fs) (hfg : ¬ fgL fi co N n bs) (hle : n ≤ moN co) (hlen : rmN co us9 true < n) (hu : us9 ≤ 1000) : Calls Tryd.prog 6 #[.pointer (some ⟨j, 0, none⟩), v0] w fun e w' => e = .returned (.int .i64 2) ∧ Ext w w' := by
  have f1 : ¬ ((moN co : Nat) : Int) < (n : Int) := by omega
  have f2 : ((rmN co us9 true : Nat) : Int) < (n : Int) := by omega
  replace f1 := hideit f1
  replace f2 := hideit f2
  obtain ⟨o, cap, rfl⟩ := hL.form
  have hR := hideit hJ.row
  have hco := hideit (And.intro hJ.co1 hJ.co2)
  replace hbi := hideit hbi
  replace hJ := hideit hJ
  replace hL := hideit hL
  replace hT := hideit hT
  replace hyes := hideit hyes
  replace hfg := hideit hfg
  replace hle := hideit hle
  replace hlen := hideit hlen
  replace hu := hideit hu
  have hE := hideit (Ext.refl w)
  go_enter Tryd.func6, Tryd.ntmps6
  go_upto_region 1 with (fail)
  refine wp_region_lit ?_
  refine xm [some (.pointer (some ⟨j, 0, none⟩))] (by kernel_rfl) (by simp [xr, go_sem]) ?_
  simp only [xw, p0, p1, p2, p3]
  refine wpList_call rfl (by simp [go_sem]) ((jrefusal p fi co nu us9 true j w hR.out).mono ?_)
  rintro e y1 ⟨rfl, h2⟩
  replace h2 : Ext w y1 := by rw [h2]; exact Ext.refl _
  refine ⟨_, rfl, ?_⟩
  simp only [zp0, zp1, zp2, zp3]
  replace hR := hideit (hR.out.carry h2)
  replace hJ := hideit (hJ.out.ext h2)
  replace hL := hideit (hL.out.ext h2)
  replace hT := hideit (hT.out.ext h2)
  replace hE := hideit (Ext.trans hE.out (h2))
  clear h2
  refine xm [some (.int .i64 0)] (by kernel_rfl) (by simp [xr, go_sem]) ?_
  simp only [xw, p0, p1, p2, p3]
  go_upto_region 2 with (fail)
  refine wp_region_lit ?_
  refine xm [some (.int .i64 0), some (.bool false)] (by kernel_rfl) (by simp [xr, go_sem]) ?_
  simp only [xw, p0, p1, p2, p3]
  have h0E := hE
  go_upto_region 4 with (fail)
  refine wp_region_lit ?_
  have m3 : y1.cell? ⟨j, 3, none⟩ = some (.int .u64 (nu.toNat : Int)) := hR.out.1 3 (by decide)
  refine xm [some (.pointer (some ⟨j, 0, none⟩)), some (.pointer (some ⟨j, 0, none⟩)), some (.pointer (some ⟨j, 3, none⟩)), some (.int .u64 (nu.toNat : Int)), some (.slice o n cap)] (by kernel_rfl) (by simp [xr, go_sem, m3]) ?_
  simp only [xw, p0, p1, p2, p3]
  clear m3
  refine wpList_call rfl (by simp [go_sem]) ((blocks_ok nu (.slice o n cap) n bs us ls fs y1 hL.out hbi.out (by omega) hT.out hyes.out).mono ?_)
  rintro e y1 ⟨va, us', rfl, hV, hX1⟩
  refine ⟨_, rfl, ?_⟩
  simp only [zp0, zp1, zp2, zp3]
  replace hR := hideit (hR.out.carry hX1)
  replace hJ := hideit (hJ.out.ext hX1)
  replace hL := hideit (hL.out.ext hX1)
  replace hT := hideit (hT.out.ext hX1)
  replace hE := hideit (Ext.trans hE.out (hX1))
  have hB1 := hideit (Below.size h0E.out)
  clear hX1 h0E
  refine xm [some (.tuple #[va, .int .i64 0]), some (va), some (.int .i64 0), some (va), some (.int .i64 0)] (by kernel_rfl) (by simp [xr, go_sem]) ?_
  simp only [xw, p0, p1, p2, p3]
  clear hB1 hV
  go_upto_region 5 with (fail)
  refine wp_region_lit ?_
  refine xm [some (.int .i64 0), some (.bool false), some (.bool false), some (.slice o n cap), some (.pointer (some ⟨j, 0, none⟩)), some (.func (.func 24) #[.pointer (some ⟨j, 0, none⟩)] #[])] (by kernel_rfl) (by simp [xr, go_sem]) ?_
  simp only [xw, p0, p1, p2, p3]
  refine wpList_callW rfl (by simp [go_sem]) ((contains_fgn (.slice o n cap) n bs us ls fs y1 j p fi co nu us9 true F N A D C hJ.out hL.out (by omega) false ⟨fun e => (by cases e), fun e => absurd e hfg.out⟩).mono ?_)
  rintro e y4 ⟨rfl, hX5⟩
  refine ⟨_, rfl, ?_⟩
  simp only [zp0, zp1, zp2, zp3]
  replace hR := hideit (hR.out.carry hX5)
  replace hJ := hideit (hJ.out.ext hX5)
  replace hL := hideit (hL.out.ext hX5)
  replace hT := hideit (hT.out.ext hX5)
  replace hE := hideit (Ext.trans hE.out (hX5))
  clear hX5
  refine xm [some (.bool false)] (by kernel_rfl) (by simp [xr, go_sem]) ?_
  simp only [xw, p0, p1, p2, p3]
  go_upto_region 7 with (fail)
  refine wp_region_lit ?_
  refine xm [some (.slice o n cap), some (.int .i64 (n : Int)), some (.pointer (some ⟨j, 0, none⟩))] (by kernel_rfl) (by simp [xr, go_sem]) ?_
  simp only [xw, p0, p1, p2, p3]
  refine wpList_call rfl (by simp [go_sem]) ((jmost p fi co nu us9 true j y4 hR.out hco.out).mono ?_)
  rintro e y6 ⟨rfl, h7⟩
  replace h7 : Ext y4 y6 := by rw [h7]; exact Ext.refl _
  refine ⟨_, rfl, ?_⟩
  simp only [zp0, zp1, zp2, zp3]
  replace hR := hideit (hR.out.carry h7)
  replace hJ := hideit (hJ.out.ext h7)
  replace hL := hideit (hL.out.ext h7)
  replace hT := hideit (hT.out.ext h7)
  replace hE := hideit (Ext.trans hE.out (h7))
  clear h7
  refine xm [some (.bool false)] (by kernel_rfl) (by simp [xr, go_sem, f1.out]) ?_
  simp only [xw, p0, p1, p2, p3]
  go_upto_region 9 with (fail)
  refine wp_region_lit ?_
  refine xm [some (.slice o n cap), some (.int .i64 (n : Int)), some (.pointer (some ⟨j, 0, none⟩))] (by kernel_rfl) (by simp [xr, go_sem]) ?_
  simp only [xw, p0, p1, p2, p3]
  refine wpList_call rfl (by simp [go_sem]) ((jroom_yes p fi co nu us9 j y6 hR.out hco.out hu.out).mono ?_)
  rintro e y8 ⟨rfl, hX9⟩
  refine ⟨_, rfl, ?_⟩
  simp only [zp0, zp1, zp2, zp3]
  replace hR := hideit (hR.out.carry hX9)
  replace hJ := hideit (hJ.out.ext hX9)
  replace hL := hideit (hL.out.ext hX9)
  replace hT := hideit (hT.out.ext hX9)
  replace hE := hideit (Ext.trans hE.out (hX9))
  clear hX9
  refine xm [some (.bool true)] (by kernel_rfl) (by simp [xr, go_sem, f2.out]) ?_
  simp only [xw, p0, p1, p2, p3]
  go_upto_region 10 with (fail)
  refine wp_region_lit ?_
  refine xm [some (.int .i64 2)] (by kernel_rfl) (by simp [xr, go_sem]) ?_
  simp only [xw, p0, p1, p2, p3]
  go_wp2
  go_ret
  exact ⟨rfl, hE.out⟩
set_option maxRecDepth 20000 in
set_option maxHeartbeats 4000000 in
theorem append_full2 (j p fi co : Nat) (nu : BitVec 64) (us9 : Nat) (F : Nat → Prop) (N : Nat) (A D : Nat → Nat → BitVec 8) (C : Nat) (v0 : Value) (n : Nat) (bs : Nat → Int) (us : Nat → Value) (ls : Nat → Nat) (fs : Nat → Nat → BitVec 8) (w : World) (hJ : JR j p fi co nu us9 false F N A D C w) (hL : RLs v0 n bs us ls fs w) (hn : n ≤ 1000000) (hbi : ∀ i, i < n → okI (bs i)) (hT : TabC w) (hyes : okT nu n bs ls fs) (hfg : ¬ fgL fi co N n bs) (hle : n ≤ moN co) : Calls Tryd.prog 6 #[.pointer (some ⟨j, 0, none⟩), v0] w fun e w' => e = .returned (.int .i64 2) ∧ Ext w w' := by
  have f1 : ¬ ((moN co : Nat) : Int) < (n : Int) := by omega
  have f2 : 0 < n := hyes.1.2.1
  replace f1 := hideit f1
  replace f2 := hideit f2
  obtain ⟨o, cap, rfl⟩ := hL.form
  have hR := hideit hJ.row
  have hco := hideit (And.intro hJ.co1 hJ.co2)
  replace hbi := hideit hbi
  replace hJ := hideit hJ
  replace hL := hideit hL
  replace hT := hideit hT
  replace hyes := hideit hyes
  replace hfg := hideit hfg
  replace hle := hideit hle
  have hE := hideit (Ext.refl w)
  go_enter Tryd.func6, Tryd.ntmps6
  go_upto_region 1 with (fail)
  refine wp_region_lit ?_
  refine xm [some (.pointer (some ⟨j, 0, none⟩))] (by kernel_rfl) (by simp [xr, go_sem]) ?_
  simp only [xw, p0, p1, p2, p3]
  refine wpList_call rfl (by simp [go_sem]) ((jrefusal p fi co nu us9 false j w hR.out).mono ?_)
  rintro e y1 ⟨rfl, h2⟩
  replace h2 : Ext w y1 := by rw [h2]; exact Ext.refl _
  refine ⟨_, rfl, ?_⟩
  simp only [zp0, zp1, zp2, zp3]
  replace hR := hideit (hR.out.carry h2)
  replace hJ := hideit (hJ.out.ext h2)
  replace hL := hideit (hL.out.ext h2)
  replace hT := hideit (hT.out.ext h2)
  replace hE := hideit (Ext.trans hE.out (h2))
  clear h2
  refine xm [some (.int .i64 0)] (by kernel_rfl) (by simp [xr, go_sem]) ?_
  simp only [xw, p0, p1, p2, p3]
  go_upto_region 2 with (fail)
  refine wp_region_lit ?_
  refine xm [some (.int .i64 0), some (.bool false)] (by kernel_rfl) (by simp [xr, go_sem]) ?_
  simp only [xw, p0, p1, p2, p3]
  have h0E := hE
  go_upto_region 4 with (fail)
  refine wp_region_lit ?_
  have m3 : y1.cell? ⟨j, 3, none⟩ = some (.int .u64 (nu.toNat : Int)) := hR.out.1 3 (by decide)
  refine xm [some (.pointer (some ⟨j, 0, none⟩)), some (.pointer (some ⟨j, 0, none⟩)), some (.pointer (some ⟨j, 3, none⟩)), some (.int .u64 (nu.toNat : Int)), some (.slice o n cap)] (by kernel_rfl) (by simp [xr, go_sem, m3]) ?_
  simp only [xw, p0, p1, p2, p3]
  clear m3
  refine wpList_call rfl (by simp [go_sem]) ((blocks_ok nu (.slice o n cap) n bs us ls fs y1 hL.out hbi.out (by omega) hT.out hyes.out).mono ?_)
  rintro e y1 ⟨va, us', rfl, hV, hX1⟩
  refine ⟨_, rfl, ?_⟩
  simp only [zp0, zp1, zp2, zp3]
  replace hR := hideit (hR.out.carry hX1)
  replace hJ := hideit (hJ.out.ext hX1)
  replace hL := hideit (hL.out.ext hX1)
  replace hT := hideit (hT.out.ext hX1)
  replace hE := hideit (Ext.trans hE.out (hX1))
  have hB1 := hideit (Below.size h0E.out)
  clear hX1 h0E
  refine xm [some (.tuple #[va, .int .i64 0]), some (va), some (.int .i64 0), some (va), some (.int .i64 0)] (by kernel_rfl) (by simp [xr, go_sem]) ?_
  simp only [xw, p0, p1, p2, p3]
  clear hB1 hV
  go_upto_region 5 with (fail)
  refine wp_region_lit ?_
  refine xm [some (.int .i64 0), some (.bool false), some (.bool false), some (.slice o n cap), some (.pointer (some ⟨j, 0, none⟩)), some (.func (.func 24) #[.pointer (some ⟨j, 0, none⟩)] #[])] (by kernel_rfl) (by simp [xr, go_sem]) ?_
  simp only [xw, p0, p1, p2, p3]
  refine wpList_callW rfl (by simp [go_sem]) ((contains_fgn (.slice o n cap) n bs us ls fs y1 j p fi co nu us9 false F N A D C hJ.out hL.out (by omega) false ⟨fun e => (by cases e), fun e => absurd e hfg.out⟩).mono ?_)
  rintro e y4 ⟨rfl, hX5⟩
  refine ⟨_, rfl, ?_⟩
  simp only [zp0, zp1, zp2, zp3]
  replace hR := hideit (hR.out.carry hX5)
  replace hJ := hideit (hJ.out.ext hX5)
  replace hL := hideit (hL.out.ext hX5)
  replace hT := hideit (hT.out.ext hX5)
  replace hE := hideit (Ext.trans hE.out (hX5))
  clear hX5
  refine xm [some (.bool false)] (by kernel_rfl) (by simp [xr, go_sem]) ?_
  simp only [xw, p0, p1, p2, p3]
  go_upto_region 7 with (fail)
  refine wp_region_lit ?_
  refine xm [some (.slice o n cap), some (.int .i64 (n : Int)), some (.pointer (some ⟨j, 0, none⟩))] (by kernel_rfl) (by simp [xr, go_sem]) ?_
  simp only [xw, p0, p1, p2, p3]
  refine wpList_call rfl (by simp [go_sem]) ((jmost p fi co nu us9 false j y4 hR.out hco.out).mono ?_)
  rintro e y6 ⟨rfl, h7⟩
  replace h7 : Ext y4 y6 := by rw [h7]; exact Ext.refl _
  refine ⟨_, rfl, ?_⟩
  simp only [zp0, zp1, zp2, zp3]
  replace hR := hideit (hR.out.carry h7)
  replace hJ := hideit (hJ.out.ext h7)
  replace hL := hideit (hL.out.ext h7)
  replace hT := hideit (hT.out.ext h7)
  replace hE := hideit (Ext.trans hE.out (h7))
  clear h7
  refine xm [some (.bool false)] (by kernel_rfl) (by simp [xr, go_sem, f1.out]) ?_
  simp only [xw, p0, p1, p2, p3]
  go_upto_region 9 with (fail)
  refine wp_region_lit ?_
  refine xm [some (.slice o n cap), some (.int .i64 (n : Int)), some (.pointer (some ⟨j, 0, none⟩))] (by kernel_rfl) (by simp [xr, go_sem]) ?_
  simp only [xw, p0, p1, p2, p3]
  refine wpList_call rfl (by simp [go_sem]) ((jroom_no p fi co nu us9 j y6 hR.out).mono ?_)
  rintro e y8 ⟨rfl, h9⟩
  replace h9 : Ext y6 y8 := by rw [h9]; exact Ext.refl _
  refine ⟨_, rfl, ?_⟩
  simp only [zp0, zp1, zp2, zp3]
  replace hR := hideit (hR.out.carry h9)
  replace hJ := hideit (hJ.out.ext h9)
  replace hL := hideit (hL.out.ext h9)
  replace hT := hideit (hT.out.ext h9)
  replace hE := hideit (Ext.trans hE.out (h9))
  clear h9
  refine xm [some (.bool true)] (by kernel_rfl) (by simp [xr, go_sem, f2.out]) ?_
  simp only [xw, p0, p1, p2, p3]
  go_upto_region 10 with (fail)
  refine wp_region_lit ?_
  refine xm [some (.int .i64 2)] (by kernel_rfl) (by simp [xr, go_sem]) ?_
  simp only [xw, p0, p1, p2, p3]
  go_wp2
  go_ret
  exact ⟨rfl, hE.out⟩
theorem append_full (j p fi co : Nat) (nu : BitVec 64) (us9 : Nat) (bg : Bool) (F : Nat → Prop) (N : Nat) (A D : Nat → Nat → BitVec 8) (C : Nat) (v0 : Value) (n : Nat) (bs : Nat → Int) (us : Nat → Value) (ls : Nat → Nat) (fs : Nat → Nat → BitVec 8) (w : World) (hJ : JR j p fi co nu us9 bg F N A D C w) (hL : RLs v0 n bs us ls fs w) (hn : n ≤ 1000000) (hbi : ∀ i, i < n → okI (bs i)) (hT : TabC w) (hyes : okT nu n bs ls fs) (hfg : ¬ fgL fi co N n bs) (hle : n ≤ moN co) (hlen : rmN co us9 bg < n) (hu : us9 ≤ 1000) : Calls Tryd.prog 6 #[.pointer (some ⟨j, 0, none⟩), v0] w fun e w' => e = .returned (.int .i64 2) ∧ Ext w w' := by
  cases bg with
  | true => exact append_full1 j p fi co nu us9 F N A D C v0 n bs us ls fs w hJ hL hn hbi hT hyes hfg hle hlen hu
  | false => exact append_full2 j p fi co nu us9 F N A D C v0 n bs us ls fs w hJ hL hn hbi hT hyes hfg hle
end Go.Proofs.YtiakkclabgelfaaDoor
namespace Go.Proofs.YtiakkclabgelfaaDoor
set_option maxRecDepth 20000
open Go.RowKit Go.BigFrame Go.Maps
set_option maxRecDepth 20000 in
set_option maxHeartbeats 4000000 in
theorem block_zero (ov : Option Addr) (cap : Nat) (f : Nat → BitVec 8) (w : World) : Calls Tryd.prog 18 #[.slice ov 0 cap] w fun e w' => ∃ v', e = .returned v' ∧ OwnB w.heap.size 5 v' 512 (yv (blkF 0 f)) w' ∧ Ext w w' := by
  go_enter Tryd.func18, Tryd.ntmps18
  go_upto_region 1 with (fail)
  refine wp_region_lit ?_
  refine wpList_made w Tryd.underlying39 info5D rfl (.const (.int .i64 512)) (.const (.int .i64 512)) rfl 512 rfl rfl (by decide) ?_
  intro w1 hO1 hX1
  simp only [zp0, zp1, zp2, zp3]
  refine wpList_run rfl (.slice (some ⟨w.heap.size, 0, none⟩) 512 512) (by simp [go_sem]) ?_
  simp only [zp0, zp1, zp2, zp3]
  have hO2 : Hid (OwnB w.heap.size 5 (.slice (some ⟨w.heap.size, 0, none⟩) 512 512) 512 (yv (blkF 0 f)) w1) := hO1.congr fun j hj => by unfold yv blkF; rw [if_pos rfl]
  replace hX1 := hideit hX1
  clear hO1
  go_wp2
  refine wp_loop_rounds 1 ?_
  rw [rounds_succ]
  go_wp2
  go_ret
  exact ⟨_, rfl, hO2.out, hX1.out⟩
set_option maxRecDepth 20000 in
set_option maxHeartbeats 4000000 in
theorem block_pos (v : Value) (l : Nat) (f : Nat → BitVec 8) (w : World) (hb : BV v l f w) (hl0' : 0 < l) (hl : l ≤ maxLen) : Calls Tryd.prog 18 #[v] w fun e w' => ∃ v', e = .returned v' ∧ OwnB w.heap.size 5 v' 512 (yv (blkF l f)) w' ∧ Ext w w' := by
  obtain ⟨ov, cap, rfl⟩ := hb.form
  replace hb := hideit hb
  have hl9 : l ≤ 9223372036854775807 := by unfold maxLen at hl; exact hl
  clear hl
  go_enter Tryd.func18, Tryd.ntmps18
  go_upto_region 1 with (fail)
  refine wp_region_lit ?_
  refine wpList_made w Tryd.underlying39 info5D rfl (.const (.int .i64 512)) (.const (.int .i64 512)) rfl 512 rfl rfl (by decide) ?_
  intro w1 hO1 hX1
  simp only [zp0, zp1, zp2, zp3]
  refine wpList_run rfl (.slice (some ⟨w.heap.size, 0, none⟩) 512 512) (by simp [go_sem]) ?_
  simp only [zp0, zp1, zp2, zp3]
  by_cases hl0 : l = 0
  · exact absurd hl0 (by omega)
  · have hO2 : OwnB w.heap.size 5 (.slice (some ⟨w.heap.size, 0, none⟩) 512 512) 512 (yv (blkK l f 0)) w1 := hO1.congr fun j hj => by unfold yv blkK; rw [if_neg (by omega)]
    obtain ⟨a, rfl, hlie⟩ : ∃ a, ov = some a ∧ LieAt a l (yv f) w := by
      rcases hb.out with ⟨h1, h0⟩ | ⟨a, cap', h1, _, h3⟩
      · omega
      · injection h1 with e1 e2 e3
        exact ⟨a, e1, h3⟩
    have l0 : (0 : Int) < (l : Int) := by omega
    replace hX1 := hideit hX1
    replace hO2 := hideit hO2
    replace hlie := hideit hlie
    clear hO1 hb
    go_wp2
    go_loopw [4] (fun iv X => ∃ i : Nat, i ≤ 512 ∧ iv = .int .i64 (i : Int) ∧ OwnB w.heap.size 5 (.slice (some ⟨w.heap.size, 0, none⟩) 512 512) 512 (yv (blkK l f i)) X ∧ Ext w X) (fun iv _ => 512 - (intOf iv).toNat)
    case atStart => exact ⟨0, Nat.zero_le _, rfl, hO2.out, hX1.out⟩
    case round =>
      obtain ⟨i, hi, rfl, hO, hE⟩ := hrel
      by_cases hlt : i < 512
      · have i0 : (0 : Int) ≤ (i : Int) := by omega
        have i1 : (i : Int) < 512 := by omega
        obtain ⟨q, hq⟩ : ∃ q, q = i % l := ⟨_, rfl⟩
        have hql : q < l := by rw [hq]; exact Nat.mod_lt _ (by omega)
        have q1 : (q : Int) < (l : Int) := by omega
        have hrem : Int.tmod (i : Int) (l : Int) = (q : Int) := by rw [hq, Int.tmod_eq_emod_of_nonneg (by omega)]; exact (Int.natCast_emod i l).symm
        have es := (hlie.out.carry hE).1 q hql
        rw [show yv f q = .int .u8 ((f q).toNat : Int) from rfl] at es
        obtain ⟨_, _, hv1, _, _, _, hR⟩ := hO.lies (by decide)
        injection hv1 with e1 e2 e3
        injection e1 with e1
        injection e1 with e1
        subst e1
        have e4 := hR.1 i hlt
        have z4 := hR.2.1 i hlt
        have hO3 : Hid (OwnB w.heap.size 5 (.slice (some ⟨w.heap.size, 0, none⟩) 512 512) 512 (yv (blkK l f (i + 1))) (wr.setCell ⟨w.heap.size, i, none⟩ (.int .u8 ((f q).toNat : Int)))) := (hO.set rfl i hlt (.int .u8 ((f q).toNat : Int))).congr fun j hj => by
          unfold yv blkK
          by_cases e : j = i
          · subst e
            rw [if_pos rfl, if_pos (by omega)]
            unfold blkF
            rw [if_neg hl0, hq]
          · rw [if_neg e]
            by_cases h2 : j < i
            · rw [if_pos h2, if_pos (by omega)]
            · rw [if_neg h2, if_neg (by omega)]
        have hE3 : Hid (Ext w (wr.setCell ⟨w.heap.size, i, none⟩ (.int .u8 ((f q).toNat : Int)))) := Below.setCell hE (Nat.le_refl _) _
        have l9 : ¬ l = 0 := hl0
        replace hq := hideit hq
        clear hO hE hR
        go_upto_region 5 with (fail)
        refine wp_region_lit ?_
        refine wpList_run rfl (.slice (some ⟨w.heap.size, 0, none⟩) 512 512) (by simp [go_sem]) ?_
        simp only [zp0, zp1, zp2, zp3]
        refine wpList_run rfl (.int .i64 (i : Int)) (by simp [go_sem]) ?_
        simp only [zp0, zp1, zp2, zp3]
        refine wpList_run rfl (.slice (some a) l cap) (by simp [go_sem]) ?_
        simp only [zp0, zp1, zp2, zp3]
        refine wpList_run rfl (.int .i64 (i : Int)) (by simp [go_sem]) ?_
        simp only [zp0, zp1, zp2, zp3]
        refine wpList_run rfl (.slice (some a) l cap) (by simp [go_sem]) ?_
        simp only [zp0, zp1, zp2, zp3]
        refine wpList_run rfl (.int .i64 (l : Int)) (by simp [go_sem]) ?_
        simp only [zp0, zp1, zp2, zp3]
        refine wpList_run rfl (.int .i64 (q : Int)) (by simp [go_sem, l9, hrem]) ?_
        simp only [zp0, zp1, zp2, zp3]
        refine wpList_run rfl (.pointer (some (a.add q))) (by simp [go_sem, q1]) ?_
        simp only [zp0, zp1, zp2, zp3]
        refine wpList_run rfl (.int .u8 ((f q).toNat : Int)) (by simp [go_sem, es]) ?_
        simp only [zp0, zp1, zp2, zp3]
        refine wpList_run rfl (.pointer (some ⟨w.heap.size, i, none⟩)) (by simp [go_sem, i1]) ?_
        simp only [zp0, zp1, zp2, zp3]
        go_wp2
        exact ⟨⟨i + 1, by omega, by go_num, hO3.out, hE3.out⟩, by simp [intOf]; omega⟩
      · obtain rfl : i = 512 := by omega
        have hO3 : Hid (OwnB w.heap.size 5 (.slice (some ⟨w.heap.size, 0, none⟩) 512 512) 512 (yv (blkF l f)) wr) := hO.congr fun j hj => by unfold yv blkK; rw [if_pos hj]
        replace hE := hideit hE
        clear hO
        go_wp2
        go_ret
        exact ⟨_, rfl, hO3.out, hE.out⟩
theorem blk14_any (v : Value) (l : Nat) (f : Nat → BitVec 8) (w : World) (hb : BV v l f w) (hl : l ≤ maxLen) : Calls Tryd.prog 18 #[v] w fun e w' => ∃ v', e = .returned v' ∧ OwnB w.heap.size 5 v' 512 (yv (blkF l f)) w' ∧ Ext w w' := by
  rcases Nat.eq_zero_or_pos l with h0 | h0
  · subst h0
    obtain ⟨o, cap, rfl⟩ := hb.form
    exact block_zero o cap f w
  · exact block_pos v l f w hb h0 hl
end Go.Proofs.YtiakkclabgelfaaDoor
