/-
  Both seeds.
-/
import Derived.Test.YtfbmeclpcgdmhabDoorQ39
namespace Go.Proofs.YtfbmeclpcgdmhabDoor
open Go.RowKit Go.BigFrame
set_option linter.unusedVariables false
theorem conv_nil (w : World) : (convert 32 9 (.slice none 0 0)).run Tryd.prog w = .ok (.string ⟨#[]⟩) w := convV (.slice none 0 0) 0 (fun _ => 0#8) w (.inl ⟨rfl, rfl⟩)
theorem okK_nat2 {n ti me la : Int} {l : Nat → Nat} (h : okK n ti me la l) : ∃ N T M L : Nat, n = (N : Int) ∧ ti = (T : Int) ∧ me = (M : Int) ∧ la = (L : Int) := by
  obtain ⟨⟨h1, h2⟩, ⟨h3, h4⟩, h5, h6⟩ := h.2.1
  exact ⟨n.toNat, ti.toNat, me.toNat, la.toNat, by have := h.1.1; omega, by omega, by omega, by omega⟩
set_option maxRecDepth 20000 in
set_option maxHeartbeats 4000000 in
theorem seeds_no (n ti me la : Int) (o : Nat → Option Addr) (l k : Nat → Nat) (w : World) (f : Nat → Nat → BitVec 8) (hb : ∀ i, i < 4 → BV (.slice (o i) (l i) (k i)) (l i) (f i) w) (hC : TabC w) (hTM : TabM w) (hk : ¬ okK n ti me la l) : Calls Tryd.prog 5 #[.int .i64 n, .agg (row 3 (pav ti me la)).toArray, .agg (row 4 (scv (.slice (o 0) (l 0) (k 0)) (.slice (o 1) (l 1) (k 1)) (.slice (o 2) (l 2) (k 2)) (.slice (o 3) (l 3) (k 3)))).toArray] w fun e w' => e = .returned (.bool true) ∧ Ext w w' := by
  have hnil := conv_nil
  replace hC := hideit hC
  replace hTM := hideit hTM
  replace hb := hideit hb
  replace hk := hideit hk
  obtain ⟨c, d, w1, hw, hd, hc, H0, H1, hE⟩ := boxes2 w 3 (pav ti me la) 31 4 (scv (.slice (o 0) (l 0) (k 0)) (.slice (o 1) (l 1) (k 1)) (.slice (o 2) (l 2) (k 2)) (.slice (o 3) (l 3) (k 3))) 34
  replace hC := hideit (hC.out.ext hE.out)
  replace hTM := hideit (hTM.out.ext hE.out)
  go_enter Tryd.func5, Tryd.ntmps5
  go_upto_region 1 with (fail)
  rw [← hd.out, ← hw.out, ← hc.out]
  clear hw hc hd
  refine wp_region_lit ?_
  refine xm [some (.int .i64 (n))] (by kernel_rfl) (by simp [xr, go_sem]) ?_
  simp only [xw, p0, p1, p2, p3]
  refine wpList_run rfl (.agg (row 3 (pav ti me la)).toArray) (xload 31 (.tmp 4) rfl c 0 3 _ rfl H0.out.range Tryd.underlying31 rfl infoPa) ?_
  simp only [Act.put, List.setIfInBounds_toArray, List.set_cons_zero, List.set_cons_succ]
  refine wpList_run rfl (.agg (row 4 (scv (.slice (o 0) (l 0) (k 0)) (.slice (o 1) (l 1) (k 1)) (.slice (o 2) (l 2) (k 2)) (.slice (o 3) (l 3) (k 3)))).toArray) (xload 34 (.tmp 5) rfl d 0 4 _ rfl H1.out.range Tryd.underlying34 rfl infoSc) ?_
  simp only [Act.put, List.setIfInBounds_toArray, List.set_cons_zero, List.set_cons_succ]
  refine wpList_call rfl (by simp [go_sem]) ((seed_no n ti me la o l k w1 hk.out).mono ?_)
  rintro e y1 ⟨rfl, hX2⟩
  refine ⟨_, rfl, ?_⟩
  simp only [Act.put, List.setIfInBounds_toArray, List.set_cons_zero, List.set_cons_succ]
  replace H0 := hideit (H0.out.carry hX2)
  replace H1 := hideit (H1.out.carry hX2)
  replace hC := hideit (hC.out.ext hX2)
  replace hTM := hideit (hTM.out.ext hX2)
  replace hE := hideit (Ext.trans hE.out hX2)

  clear hX2
  refine xm [some (.tuple #[.slice none 0 0, .int .i64 80]), some (.slice none 0 0), some (.int .i64 80), some (.slice none 0 0), some (.int .i64 80)] (by kernel_rfl) (by simp [xr, go_sem]) ?_
  simp only [xw, p0, p1, p2, p3]
  go_upto_region 2 with (fail)
  refine wp_region_lit ?_
  refine xm [some (.int .i64 (n))] (by kernel_rfl) (by simp [xr, go_sem]) ?_
  simp only [xw, p0, p1, p2, p3]
  refine wpList_run rfl (.agg (row 3 (pav ti me la)).toArray) (xload 31 (.tmp 4) rfl c 0 3 _ rfl H0.out.range Tryd.underlying31 rfl infoPa) ?_
  simp only [Act.put, List.setIfInBounds_toArray, List.set_cons_zero, List.set_cons_succ]
  refine wpList_run rfl (.agg (row 4 (scv (.slice (o 0) (l 0) (k 0)) (.slice (o 1) (l 1) (k 1)) (.slice (o 2) (l 2) (k 2)) (.slice (o 3) (l 3) (k 3)))).toArray) (xload 34 (.tmp 5) rfl d 0 4 _ rfl H1.out.range Tryd.underlying34 rfl infoSc) ?_
  simp only [Act.put, List.setIfInBounds_toArray, List.set_cons_zero, List.set_cons_succ]
  refine wpList_call rfl (by simp [go_sem]) ((rseed_no n ti me la o l k y1 hk.out).mono ?_)
  rintro e y3 ⟨rfl, hX4⟩
  refine ⟨_, rfl, ?_⟩
  simp only [Act.put, List.setIfInBounds_toArray, List.set_cons_zero, List.set_cons_succ]
  replace H0 := hideit (H0.out.carry hX4)
  replace H1 := hideit (H1.out.carry hX4)
  replace hC := hideit (hC.out.ext hX4)
  replace hTM := hideit (hTM.out.ext hX4)
  replace hE := hideit (Ext.trans hE.out hX4)

  clear hX4
  refine xm [some (.tuple #[.slice none 0 0, .int .i64 80]), some (.slice none 0 0), some (.int .i64 80), some (.slice none 0 0), some (.int .i64 80)] (by kernel_rfl) (by simp [xr, go_sem]) ?_
  simp only [xw, p0, p1, p2, p3]
  go_upto_region 3 with (fail)
  refine wp_region_lit ?_
  refine wpList_call rfl (by simp [go_sem]) ((alives y3 hC.out hTM.out).mono ?_)
  rintro e y5 ⟨rfl, hX6⟩
  refine ⟨_, rfl, ?_⟩
  simp only [Act.put, List.setIfInBounds_toArray, List.set_cons_zero, List.set_cons_succ]
  replace H0 := hideit (H0.out.carry hX6)
  replace H1 := hideit (H1.out.carry hX6)
  replace hC := hideit (hC.out.ext hX6)
  replace hTM := hideit (hTM.out.ext hX6)
  replace hE := hideit (Ext.trans hE.out hX6)

  clear hX6
  refine xm [some (.bool true), some (.slice none 0 0), some (.string ⟨#[]⟩), some (.slice none 0 0), some (.string ⟨#[]⟩), some (.bool true), some (.bool true), some (.bool true), some (.int .i64 80), some (.int .i64 80), some (.bool true), some (.bool true), some (.bool true)] (by kernel_rfl) (by simp [xr, go_sem, hnil]) ?_
  simp only [xw, p0, p1, p2, p3]
  go_wp2
  go_ret
  exact ⟨rfl, hE.out⟩
set_option maxRecDepth 20000 in
set_option maxHeartbeats 4000000 in
theorem seeds_ok (n T M L : Nat) (o : Nat → Option Addr) (l k : Nat → Nat) (w : World) (f : Nat → Nat → BitVec 8) (hb : ∀ i, i < 4 → BV (.slice (o i) (l i) (k i)) (l i) (f i) w) (hC : TabC w) (hTM : TabM w) (hk : okK (n : Int) (T : Int) (M : Int) (L : Int) l) : Calls Tryd.prog 5 #[.int .i64 (n : Int), .agg (row 3 (pav (T : Int) (M : Int) (L : Int))).toArray, .agg (row 4 (scv (.slice (o 0) (l 0) (k 0)) (.slice (o 1) (l 1) (k 1)) (.slice (o 2) (l 2) (k 2)) (.slice (o 3) (l 3) (k 3)))).toArray] w fun e w' => e = .returned (.bool true) ∧ Ext w w' := by
  obtain ⟨KS, hKS⟩ : ∃ K, K = bstr 64 fun j => ((sdF n T M L l f j).toNat : Int) := ⟨_, rfl⟩
  replace hC := hideit hC
  replace hTM := hideit hTM
  replace hb := hideit hb
  replace hk := hideit hk
  obtain ⟨c, d, w1, hw, hd, hc, H0, H1, hE⟩ := boxes2 w 3 (pav (T : Int) (M : Int) (L : Int)) 31 4 (scv (.slice (o 0) (l 0) (k 0)) (.slice (o 1) (l 1) (k 1)) (.slice (o 2) (l 2) (k 2)) (.slice (o 3) (l 3) (k 3))) 34
  replace hC := hideit (hC.out.ext hE.out)
  replace hTM := hideit (hTM.out.ext hE.out)
  go_enter Tryd.func5, Tryd.ntmps5
  go_upto_region 1 with (fail)
  rw [← hd.out, ← hw.out, ← hc.out]
  clear hw hc hd
  refine wp_region_lit ?_
  refine xm [some (.int .i64 (n : Int))] (by kernel_rfl) (by simp [xr, go_sem]) ?_
  simp only [xw, p0, p1, p2, p3]
  refine wpList_run rfl (.agg (row 3 (pav (T : Int) (M : Int) (L : Int))).toArray) (xload 31 (.tmp 4) rfl c 0 3 _ rfl H0.out.range Tryd.underlying31 rfl infoPa) ?_
  simp only [Act.put, List.setIfInBounds_toArray, List.set_cons_zero, List.set_cons_succ]
  refine wpList_run rfl (.agg (row 4 (scv (.slice (o 0) (l 0) (k 0)) (.slice (o 1) (l 1) (k 1)) (.slice (o 2) (l 2) (k 2)) (.slice (o 3) (l 3) (k 3)))).toArray) (xload 34 (.tmp 5) rfl d 0 4 _ rfl H1.out.range Tryd.underlying34 rfl infoSc) ?_
  simp only [Act.put, List.setIfInBounds_toArray, List.set_cons_zero, List.set_cons_succ]
  refine wpList_call rfl (by simp [go_sem]) ((seed_ok n T M L o l k f w1 hk.out (fun i hi => (hb.out i hi).ext hE.out) hC.out).mono ?_)
  rintro e y8 ⟨va, rfl, hO, hX8⟩
  refine ⟨_, rfl, ?_⟩
  simp only [Act.put, List.setIfInBounds_toArray, List.set_cons_zero, List.set_cons_succ]
  replace H0 := hideit (H0.out.carry hX8)
  replace H1 := hideit (H1.out.carry hX8)
  replace hC := hideit (hC.out.ext hX8)
  replace hTM := hideit (hTM.out.ext hX8)
  replace hE := hideit (Ext.trans hE.out hX8)
  obtain ⟨a8, c8, rfl, _, hc8, _, hR8⟩ := hO.lies (by decide)
  have V8 : Hid (BV (.slice (some ⟨a8, 0, none⟩) 64 c8) 64 (sdF n T M L l f) y8) := .inr ⟨_, _, rfl, hc8, hR8.lie 64 (Nat.le_refl _)⟩
  clear hO hR8 hX8
  refine xm [some (.tuple #[.slice (some ⟨a8, 0, none⟩) 64 c8, .int .i64 0]), some (.slice (some ⟨a8, 0, none⟩) 64 c8), some (.int .i64 0), some (.slice (some ⟨a8, 0, none⟩) 64 c8), some (.int .i64 0)] (by kernel_rfl) (by simp [xr, go_sem]) ?_
  simp only [xw, p0, p1, p2, p3]
  go_upto_region 2 with (fail)
  refine wp_region_lit ?_
  refine xm [some (.int .i64 (n : Int))] (by kernel_rfl) (by simp [xr, go_sem]) ?_
  simp only [xw, p0, p1, p2, p3]
  refine wpList_run rfl (.agg (row 3 (pav (T : Int) (M : Int) (L : Int))).toArray) (xload 31 (.tmp 4) rfl c 0 3 _ rfl H0.out.range Tryd.underlying31 rfl infoPa) ?_
  simp only [Act.put, List.setIfInBounds_toArray, List.set_cons_zero, List.set_cons_succ]
  refine wpList_run rfl (.agg (row 4 (scv (.slice (o 0) (l 0) (k 0)) (.slice (o 1) (l 1) (k 1)) (.slice (o 2) (l 2) (k 2)) (.slice (o 3) (l 3) (k 3)))).toArray) (xload 34 (.tmp 5) rfl d 0 4 _ rfl H1.out.range Tryd.underlying34 rfl infoSc) ?_
  simp only [Act.put, List.setIfInBounds_toArray, List.set_cons_zero, List.set_cons_succ]
  refine wpList_call rfl (by simp [go_sem]) ((rseed_ok n T M L o l k f y8 hk.out (fun i hi => (hb.out i hi).ext hE.out)).mono ?_)
  rintro e y9 ⟨va, rfl, hO, hX9⟩
  refine ⟨_, rfl, ?_⟩
  simp only [Act.put, List.setIfInBounds_toArray, List.set_cons_zero, List.set_cons_succ]
  replace H0 := hideit (H0.out.carry hX9)
  replace H1 := hideit (H1.out.carry hX9)
  replace hC := hideit (hC.out.ext hX9)
  replace hTM := hideit (hTM.out.ext hX9)
  replace V8 := hideit (V8.out.ext hX9)
  replace hE := hideit (Ext.trans hE.out hX9)
  obtain ⟨a9, c9, rfl, _, hc9, _, hR9⟩ := hO.lies (by decide)
  have V9 : Hid (BV (.slice (some ⟨a9, 0, none⟩) 64 c9) 64 (sdF n T M L l f) y9) := .inr ⟨_, _, rfl, hc9, hR9.lie 64 (Nat.le_refl _)⟩
  clear hO hR9 hX9
  refine xm [some (.tuple #[.slice (some ⟨a9, 0, none⟩) 64 c9, .int .i64 0]), some (.slice (some ⟨a9, 0, none⟩) 64 c9), some (.int .i64 0), some (.slice (some ⟨a9, 0, none⟩) 64 c9), some (.int .i64 0)] (by kernel_rfl) (by simp [xr, go_sem]) ?_
  simp only [xw, p0, p1, p2, p3]
  go_upto_region 3 with (fail)
  refine wp_region_lit ?_
  refine wpList_call rfl (by simp [go_sem]) ((alives y9 hC.out hTM.out).mono ?_)
  rintro e y1 ⟨rfl, hX2⟩
  refine ⟨_, rfl, ?_⟩
  simp only [Act.put, List.setIfInBounds_toArray, List.set_cons_zero, List.set_cons_succ]
  replace H0 := hideit (H0.out.carry hX2)
  replace H1 := hideit (H1.out.carry hX2)
  replace hC := hideit (hC.out.ext hX2)
  replace hTM := hideit (hTM.out.ext hX2)
  replace V8 := hideit (V8.out.ext hX2)
  replace V9 := hideit (V9.out.ext hX2)
  replace hE := hideit (Ext.trans hE.out hX2)

  clear hX2
  refine xm [some (.bool true), some (.slice (some ⟨a8, 0, none⟩) 64 c8)] (by kernel_rfl) (by simp [xr, go_sem]) ?_
  simp only [xw, p0, p1, p2, p3]
  refine wpList_runW rfl (.string KS) ((by have q := convV _ _ _ y1 V8.out; rw [← hKS] at q; simp [go_sem, q])) ?_
  simp only [Act.put, List.setIfInBounds_toArray, List.set_cons_zero, List.set_cons_succ]
  refine xm [some (.slice (some ⟨a9, 0, none⟩) 64 c9)] (by kernel_rfl) (by simp [xr, go_sem]) ?_
  simp only [xw, p0, p1, p2, p3]
  refine wpList_runW rfl (.string KS) ((by have q := convV _ _ _ y1 V9.out; rw [← hKS] at q; simp [go_sem, q])) ?_
  simp only [Act.put, List.setIfInBounds_toArray, List.set_cons_zero, List.set_cons_succ]
  refine xm [some (.bool true), some (.bool true), some (.bool true), some (.int .i64 0), some (.int .i64 0), some (.bool true), some (.bool true), some (.bool true)] (by kernel_rfl) (by simp [xr, go_sem]) ?_
  simp only [xw, p0, p1, p2, p3]
  go_wp2
  go_ret
  exact ⟨rfl, hE.out⟩
theorem seeds_any (n ti me la : Int) (o : Nat → Option Addr) (l k : Nat → Nat) (w : World) (f : Nat → Nat → BitVec 8) (hb : ∀ i, i < 4 → BV (.slice (o i) (l i) (k i)) (l i) (f i) w) (hC : TabC w) (hTM : TabM w) : Calls Tryd.prog 5 #[.int .i64 n, .agg (row 3 (pav ti me la)).toArray, .agg (row 4 (scv (.slice (o 0) (l 0) (k 0)) (.slice (o 1) (l 1) (k 1)) (.slice (o 2) (l 2) (k 2)) (.slice (o 3) (l 3) (k 3)))).toArray] w fun e w' => e = .returned (.bool true) ∧ Ext w w' := by
  by_cases hk : okK n ti me la l
  · obtain ⟨N, T, M, L, rfl, rfl, rfl, rfl⟩ := okK_nat2 hk
    exact seeds_ok N T M L o l k w f hb hC hTM hk
  · exact seeds_no n ti me la o l k w f hb hC hTM hk
end Go.Proofs.YtfbmeclpcgdmhabDoor
