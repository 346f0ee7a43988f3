/-
  Opening: the program and the document tell the same. Sealing: the program and the document do the same, and it opens again. What a record binds.
-/
import Derived.Test.YtfpfgbhdehbggaaGreatDoorQc41
import Derived.Test.YtfpfgbhdehbggaaGreatDoorQc45
import Derived.Test.YtfpfgbhdehbggaaGreatDoorQc31
import Derived.Test.YtfpfgbhdehbggaaGreatDoorQc1
namespace Go.Proofs.YtfpfgbhdehbggaaGreatDoor
open Go.RowKit Go.BigFrame
set_option linter.unusedVariables false
set_option maxRecDepth 20000
theorem fold_push (L : List Int) (r : ByteArray) : (L.foldl (fun r n => r.push (UInt8.ofNat n.toNat)) r).data.toList = r.data.toList ++ L.map (fun n => UInt8.ofNat n.toNat) := by
  induction L generalizing r with
  | nil => simp
  | cons a L ih => rw [List.foldl_cons, ih]; simp [ByteArray.push]
theorem bS_inj {l : Nat} {b c : Nat → BitVec 8} (h : bS l b = bS l c) (j : Nat) (hj : j < l) : b j = c j := by
  have q := congrArg (fun r : ByteArray => r.data.toList) h
  have e0 : ByteArray.empty.data.toList = [] := rfl
  simp only [bS, bstr, fold_push, e0, List.nil_append, List.map_map] at q
  have q2 := congrArg (·[j]?) q
  simp [hj] at q2
  exact q2
end Go.Proofs.YtfpfgbhdehbggaaGreatDoor
namespace Go.Proofs.YtfpfgbhdehbggaaGreatDoor
open Go.RowKit Go.BigFrame
set_option linter.unusedVariables false
set_option maxRecDepth 20000
end Go.Proofs.YtfpfgbhdehbggaaGreatDoor
namespace Go.Proofs.YtfpfgbhdehbggaaGreatDoor
open Go.RowKit Go.BigFrame
set_option linter.unusedVariables false
set_option maxRecDepth 20000
theorem ba_ext {a b : ByteArray} (h : a.toList = b.toList) : a = b := by
  rw [ByteArray.toList_eq, ByteArray.toList_eq] at h
  cases a
  cases b
  simp at h
  rw [h]
theorem xD_congr (S1 S2 : Nat → BitVec 8) (r : Nat) (hr : 1 ≤ r) (u : BitVec 64) (D D' : Nat → BitVec 8) (l : Nat) (hl : 16 ≤ l) (h : ∀ j, j < l → D j = D' j) (j : Nat) (hj : j < l) : xD S1 S2 r u D l j = xD S1 S2 r u D' l j := by
  rw [xD_unit, xD_unit]
  exact unitF_congr _ (undoes_enc S1 r hr).congr _ _ _ D D' _ l (nbOf_spec l hl) h j hj
theorem rOfI_any (e n : Int) (D T : Nat → BitVec 8) (v : Value) (f : Nat → BitVec 8) (w : World) (hV : BV v 512 f w) (h : okK e n) : Calls Tryz.prog 13 #[.agg (row 65 (ekI e D T)).toArray, .int .i64 n, v] w fun e' w' => e' = .returned (.agg (row 64 (yv (rcF e.toNat n.toNat T f 512))).toArray) ∧ Ext w w' := by
  obtain ⟨h1, h2, h3, h4⟩ := h
  obtain ⟨a, rfl⟩ : ∃ a : Nat, e = (a : Int) := ⟨e.toNat, by omega⟩
  obtain ⟨b, rfl⟩ : ∃ b : Nat, n = (b : Int) := ⟨n.toNat, by omega⟩
  exact rrOf_any a b D T v f w hV (by omega) (by omega)
set_option maxRecDepth 20000 in
set_option maxHeartbeats 4000000 in
theorem binds_any (e n : Int) (D T : Nat → BitVec 8) (v : Value) (l : Nat) (f : Nat → BitVec 8) (m : Int) (v2 : Value) (l2 : Nat) (g : Nat → BitVec 8) (w : World) (hV : BV v l f w) (hU : BV v2 l2 g w) (h9 : e < 9223372036854775808) (hC : TabC w) : Calls Tryz.prog 5 #[.agg (row 65 (ekI e D T)).toArray, .int .i64 n, v, .int .i64 m, v2] w fun e' w' => e' = .returned (.bool true) ∧ Ext w w' := by
  obtain ⟨o, k, rfl⟩ := hV.form
  obtain ⟨o2, k2, rfl⟩ := hU.form
  replace hV := hideit hV
  replace hU := hideit hU
  have hE := hideit (Ext.refl w)
  go_enter Tryz.func5, Tryz.ntmps5
  go_upto_region 0 with (fail)
  refine wp_region_lit ?_
  have A0 := hideit (RowAt.new w 65 (ekI e D T) 24)
  have XB : Ext w (w.alloc (.cells (row 65 (ekI e D T)).toArray 24)) := (Below.refl _ _).alloc (Nat.le_refl _) _
  have AE := hideit (Ext.trans hE.out (XB))
  have AB := hideit (hE.out.size)
  clear XB
  refine wpList_to rfl (.pointer (some ⟨w.heap.size, 0, none⟩)) (w.alloc (.cells (row 65 (ekI e D T)).toArray 24)) (by simp [go_sem]) ?_
  simp only [zp0, zp1, zp2, zp3]
  generalize w.alloc (.cells (row 65 (ekI e D T)).toArray 24) = x1 at A0 AE ⊢
  obtain ⟨c5, ec5⟩ : ∃ b, b = w.heap.size := ⟨_, rfl⟩
  have ABc5 : Hid (w.heap.size ≤ c5) := by rw [ec5]; exact AB.out
  clear AB
  rw [← ec5] at A0  ⊢
  clear ec5
  have Hc5 := A0
  clear A0
  replace hE := AE
  clear AE
  refine xm [some (.bool false)] (by kernel_rfl) (by simp [xr, go_sem]) ?_
  simp only [xw, p0, p1, p2, p3]
  replace hV := hideit (hV.out.ext hE.out)
  replace hU := hideit (hU.out.ext hE.out)
  have hF := hideit (Ext.refl x1)
  go_upto_region 1 with (fail)
  refine wp_region_lit ?_
  refine wpList_run rfl (.agg (row 65 (ekI e D T)).toArray) (xload 24 (.tmp 5) rfl c5 0 65 _ rfl Hc5.out.range Tryz.underlying24 rfl inf50) ?_
  simp only [zp0, zp1, zp2, zp3]
  refine xm [some (.int .i64 (n)), some (.slice o l k)] (by kernel_rfl) (by simp [xr, go_sem]) ?_
  simp only [xw, p0, p1, p2, p3]
  refine wpList_call rfl (by simp [go_sem]) ((rseal_any e n D T (.slice o l k) l f x1 (hV.out.ext hF.out) h9).mono ?_)
  rintro e y2 ⟨ua, rfl, hua, hXua⟩
  refine ⟨_, rfl, ?_⟩
  simp only [zp0, zp1, zp2, zp3]
  replace Hc5 := hideit (Hc5.out.carry hXua)
  replace hF := hideit (Ext.trans hF.out (hXua))
  obtain ⟨oua, kua, rfl⟩ := hua.form
  replace hua := hideit hua
  clear hXua
  replace hE := hideit (Ext.trans hE.out hF.out)
  replace hV := hideit (hV.out.ext hF.out)
  replace hU := hideit (hU.out.ext hF.out)
  replace hF := hideit (Ext.refl y2)
  refine xm [some (.tuple #[.slice oua (seL e n l) kua, .agg (row 64 (yv (srF e n D T l f))).toArray, .int .i64 (sC e n l)]), some (.slice oua (seL e n l) kua), some (.agg (row 64 (yv (srF e n D T l f))).toArray), some (.int .i64 (sC e n l))] (by kernel_rfl) (by simp [xr, go_sem]) ?_
  simp only [xw, p0, p1, p2, p3]
  have A0 := hideit (RowAt.new y2 64 (yv fun _ => 0#8) 26)
  have A1 := hideit (Hc5.out.alloc (.cells (row 64 (yv fun _ => 0#8)).toArray 26))
  have AE := hideit (Below.alloc hF.out (Below.size hF.out) (.cells (row 64 (yv fun _ => 0#8)).toArray 26))
  have AB := hideit (Below.size hF.out)
  have D0 : Hid (c5 ≠ y2.heap.size) := Nat.ne_of_lt Hc5.out.2.2
  refine wpList_to rfl (.pointer (some ⟨y2.heap.size, 0, none⟩)) (y2.alloc (.cells (row 64 (yv fun _ => 0#8)).toArray 26)) (xalloc 26 (row 64 (yv fun _ => 0#8)).toArray rfl (zero23 y2)) ?_
  simp only [zp0, zp1, zp2, zp3]
  generalize y2.alloc (.cells (row 64 (yv fun _ => 0#8)).toArray 26) = x4 at A0 A1 AE ⊢
  obtain ⟨z3, ez3⟩ : ∃ b, b = y2.heap.size := ⟨_, rfl⟩
  replace AB : Hid (y2.heap.size ≤ z3) := by rw [ez3]; exact AB.out
  rw [← ez3] at A0 D0 ⊢
  clear ez3
  have Hz3 := A0
  clear A0
  replace Hc5 := A1
  clear A1
  replace hF := AE
  clear AE
  have ABz3 := AB
  clear AB
  have Dz3_0 := D0
  clear D0
  refine xm [some (.slice oua (seL e n l) kua)] (by kernel_rfl) (by simp [xr, go_sem]) ?_
  simp only [xw, p0, p1, p2, p3]
  have N0 := hideit (Hz3.out.cells (g' := yv (srF e n D T l f)))
  have N1 := hideit (Hc5.out.cellsOther (Ne.symm (Dz3_0.out)) (row 64 (yv (srF e n D T l f))) 0)
  have NE := hideit (below_setCells z3 (ABz3.out) (row 64 (yv (srF e n D T l f))) 0 _ hF.out)
  refine xst rfl (x4.setCells z3 0 (row 64 (yv (srF e n D T l f)))) (xstore 26 (.tmp 12) (.tmp 25) rfl z3 64 _ (yv (srF e n D T l f)) rfl rfl Hz3.out inf23 (fun j _ => rfl)) ?_
  simp only [Act.put]
  generalize x4.setCells z3 0 (row 64 (yv (srF e n D T l f))) = x5 at N0 N1 NE ⊢
  replace Hz3 := N0
  replace Hc5 := N1
  replace hF := NE
  clear N0 N1 NE
  refine xm [some (.int .i64 (sC e n l))] (by kernel_rfl) (by simp [xr, go_sem]) ?_
  simp only [xw, p0, p1, p2, p3]
  go_upto_region 2 with (fail)
  refine wp_region_lit ?_
  refine wpList_run rfl (.agg (row 65 (ekI e D T)).toArray) (xload 24 (.tmp 5) rfl c5 0 65 _ rfl Hc5.out.range Tryz.underlying24 rfl inf50) ?_
  simp only [zp0, zp1, zp2, zp3]
  refine xm [some (.int .i64 (m)), some (.slice o2 l2 k2)] (by kernel_rfl) (by simp [xr, go_sem]) ?_
  simp only [xw, p0, p1, p2, p3]
  refine wpList_run rfl (.agg (row 64 (yv (srF e n D T l f))).toArray) (xload 26 (.tmp 12) rfl z3 0 64 _ rfl Hz3.out.range Tryz.underlying26 rfl inf23) ?_
  simp only [zp0, zp1, zp2, zp3]
  refine wpList_call rfl (by simp [go_sem]) ((open_any e m D T (srF e n D T l f) (.slice o2 l2 k2) l2 g x5 (hU.out.ext hF.out) h9 (hC.ext (Ext.trans hE.out hF.out))).mono ?_)
  rintro e y6 ⟨ub, rfl, hub, hXub⟩
  refine ⟨_, rfl, ?_⟩
  simp only [zp0, zp1, zp2, zp3]
  replace Hc5 := hideit (Hc5.out.carry hXub)
  replace Hz3 := hideit (Hz3.out.carry hXub)
  replace hF := hideit (Ext.trans hF.out (hXub))
  obtain ⟨oub, kub, rfl⟩ := hub.form
  replace hub := hideit hub
  clear hXub
  replace hE := hideit (Ext.trans hE.out hF.out)
  replace hV := hideit (hV.out.ext hF.out)
  replace hU := hideit (hU.out.ext hF.out)
  replace hua := hideit (hua.out.ext hF.out)
  replace hF := hideit (Ext.refl y6)
  refine xm [some (.tuple #[.slice oub (opL e m T l2 g (srF e n D T l f)) kub, .int .i64 (opC e m T l2 g (srF e n D T l f))]), some (.slice oub (opL e m T l2 g (srF e n D T l f)) kub), some (.int .i64 (opC e m T l2 g (srF e n D T l f))), some (.slice oub (opL e m T l2 g (srF e n D T l f)) kub), some (.int .i64 (opC e m T l2 g (srF e n D T l f)))] (by kernel_rfl) (by simp [xr, go_sem]) ?_
  simp only [xw, p0, p1, p2, p3]
  by_cases hg9 : sC e n l = 0
  · have hg := hideit hg9
    by_cases ho9 : opC e m T l2 g (srF e n D T l f) = 0
    · have ho := hideit ho9
      have hl2 : Hid (l2 = 512) := (sC_ok (opC_ok ho9).1).2
      have hok : Hid (okK e m) := (sC_ok (opC_ok ho9).1).1
      have hls : Hid (l = 512) := (sC_ok hg9).2
      have hSL : Hid (seL e n l = 512) := by show seL e n l = 512; exact if_pos hg9
      have hOL : Hid (opL e m T l2 g (srF e n D T l f) = 512) := opL_0 ho9
      have hq : Hid (∀ j, j < 64 → rcF e.toNat m.toNat T g 512 j = srF e n D T l f j) := (opC_ok ho9).2
      clear ho9 hg9
      go_upto_region 3 with (fail)
      refine wp_region_lit ?_
      refine wpList_call rfl (by simp [go_sem]) ((lives_any y6 (hC.ext (Ext.trans hE.out hF.out))).mono ?_)
      rintro e y7 ⟨rfl, hX8⟩
      refine ⟨_, rfl, ?_⟩
      simp only [zp0, zp1, zp2, zp3]
      replace Hc5 := hideit (Hc5.out.carry hX8)
      replace Hz3 := hideit (Hz3.out.carry hX8)
      replace hF := hideit (Ext.trans hF.out (hX8))
      clear hX8
      refine xm [some (.bool false), some (.bool false), some (.int .i64 (sC e n l)), some (.bool false), some (.bool false), some (.bool false), some (.int .i64 (opC e m T l2 g (srF e n D T l f))), some (.bool false), some (.bool false)] (by kernel_rfl) (by simp [xr, go_sem, hg.out, ho.out]) ?_
      simp only [xw, p0, p1, p2, p3]
      go_upto_region 5 with (fail)
      refine wp_region_lit ?_
      refine wpList_run rfl (.agg (row 65 (ekI e D T)).toArray) (xload 24 (.tmp 5) rfl c5 0 65 _ rfl Hc5.out.range Tryz.underlying24 rfl inf50) ?_
      simp only [zp0, zp1, zp2, zp3]
      refine xm [some (.int .i64 (n)), some (.slice o l k)] (by kernel_rfl) (by simp [xr, go_sem]) ?_
      simp only [xw, p0, p1, p2, p3]
      refine wpList_call rfl (by simp [go_sem]) ((rseal_any e n D T (.slice o l k) l f y7 (hV.out.ext hF.out) h9).mono ?_)
      rintro e y9 ⟨uc, rfl, huc, hXuc⟩
      refine ⟨_, rfl, ?_⟩
      simp only [zp0, zp1, zp2, zp3]
      replace Hc5 := hideit (Hc5.out.carry hXuc)
      replace Hz3 := hideit (Hz3.out.carry hXuc)
      replace hF := hideit (Ext.trans hF.out (hXuc))
      obtain ⟨ouc, kuc, rfl⟩ := huc.form
      replace huc := hideit huc
      clear hXuc
      replace hE := hideit (Ext.trans hE.out hF.out)
      replace hV := hideit (hV.out.ext hF.out)
      replace hU := hideit (hU.out.ext hF.out)
      replace hua := hideit (hua.out.ext hF.out)
      replace hub := hideit (hub.out.ext hF.out)
      replace hF := hideit (Ext.refl y9)
      refine xm [some (.tuple #[.slice ouc (seL e n l) kuc, .agg (row 64 (yv (srF e n D T l f))).toArray, .int .i64 (sC e n l)]), some (.slice ouc (seL e n l) kuc), some (.agg (row 64 (yv (srF e n D T l f))).toArray), some (.int .i64 (sC e n l))] (by kernel_rfl) (by simp [xr, go_sem]) ?_
      simp only [xw, p0, p1, p2, p3]
      have A0 := hideit (RowAt.new y9 64 (yv fun _ => 0#8) 26)
      have A1 := hideit (Hc5.out.alloc (.cells (row 64 (yv fun _ => 0#8)).toArray 26))
      have A2 := hideit (Hz3.out.alloc (.cells (row 64 (yv fun _ => 0#8)).toArray 26))
      have AE := hideit (Below.alloc hF.out (Below.size hF.out) (.cells (row 64 (yv fun _ => 0#8)).toArray 26))
      have AB := hideit (Below.size hF.out)
      have D0 : Hid (c5 ≠ y9.heap.size) := Nat.ne_of_lt Hc5.out.2.2
      have D1 : Hid (z3 ≠ y9.heap.size) := Nat.ne_of_lt Hz3.out.2.2
      refine wpList_to rfl (.pointer (some ⟨y9.heap.size, 0, none⟩)) (y9.alloc (.cells (row 64 (yv fun _ => 0#8)).toArray 26)) (xalloc 26 (row 64 (yv fun _ => 0#8)).toArray rfl (zero23 y9)) ?_
      simp only [zp0, zp1, zp2, zp3]
      generalize y9.alloc (.cells (row 64 (yv fun _ => 0#8)).toArray 26) = x11 at A0 A1 A2 AE ⊢
      obtain ⟨z10, ez10⟩ : ∃ b, b = y9.heap.size := ⟨_, rfl⟩
      replace AB : Hid (y9.heap.size ≤ z10) := by rw [ez10]; exact AB.out
      rw [← ez10] at A0 D0 D1 ⊢
      clear ez10
      have Hz10 := A0
      clear A0
      replace Hc5 := A1
      clear A1
      replace Hz3 := A2
      clear A2
      replace hF := AE
      clear AE
      have ABz10 := AB
      clear AB
      have Dz10_0 := D0
      clear D0
      have Dz10_1 := D1
      clear D1
      refine xm [some (.slice ouc (seL e n l) kuc)] (by kernel_rfl) (by simp [xr, go_sem]) ?_
      simp only [xw, p0, p1, p2, p3]
      have N0 := hideit (Hz10.out.cells (g' := yv (srF e n D T l f)))
      have N1 := hideit (Hc5.out.cellsOther (Ne.symm (Dz10_0.out)) (row 64 (yv (srF e n D T l f))) 0)
      have N2 := hideit (Hz3.out.cellsOther (Ne.symm (Dz10_1.out)) (row 64 (yv (srF e n D T l f))) 0)
      have NE := hideit (below_setCells z10 (ABz10.out) (row 64 (yv (srF e n D T l f))) 0 _ hF.out)
      refine xst rfl (x11.setCells z10 0 (row 64 (yv (srF e n D T l f)))) (xstore 26 (.tmp 17) (.tmp 52) rfl z10 64 _ (yv (srF e n D T l f)) rfl rfl Hz10.out inf23 (fun j _ => rfl)) ?_
      simp only [Act.put]
      generalize x11.setCells z10 0 (row 64 (yv (srF e n D T l f))) = x12 at N0 N1 N2 NE ⊢
      replace Hz10 := N0
      replace Hc5 := N1
      replace Hz3 := N2
      replace hF := NE
      clear N0 N1 N2 NE
      refine xm [some (.int .i64 (sC e n l))] (by kernel_rfl) (by simp [xr, go_sem]) ?_
      simp only [xw, p0, p1, p2, p3]
      by_cases hmn9 : m = n
      · have hmn := hideit hmn9
        by_cases hst9 : bS l2 g = bS (seL e n l) (seF D n.toNat f)
        · have hst := hideit hst9.symm
          have hbs : Hid (bS (opL e m T l2 g (srF e n D T l f)) (opF D m.toNat g) = bS l f) := by
            show _ = _
            rw [hOL.out, hls.out]
            rw [hl2.out, hSL.out] at hst9
            refine bS_congr fun j hj => ?_
            have q : opF D m.toNat g j = opF D m.toNat (seF D n.toNat f) j := xD_congr _ _ 10 (by decide) (n4 m.toNat) g (seF D n.toNat f) 512 (by decide) (fun i hi => bS_inj hst9 i hi) j hj
            rw [q, hmn9]
            exact op_se D n.toNat f j hj
          clear hst9 hmn9
          go_upto_region 6 with (fail)
          refine wp_region_lit ?_
          refine xm [some (.int .i64 (m)), some (.int .i64 (n)), some (.bool true), some (.bool true), some (.slice o2 l2 k2)] (by kernel_rfl) (by simp [xr, go_sem, hmn.out]) ?_
          simp only [xw, p0, p1, p2, p3]
          have cv13 := convS (.slice o2 l2 k2) l2 (g) x12 (hU.out.ext hF.out)
          refine xm [some (.string (bS l2 (g))), some (.slice ouc (seL e n l) kuc)] (by kernel_rfl) (by simp [xr, go_sem, cv13]) ?_
          simp only [xw, p0, p1, p2, p3]
          clear cv13
          have cv14 := convS (.slice ouc (seL e n l) kuc) (seL e n l) (seF D n.toNat f) x12 (huc.out.ext hF.out)
          rw [hst.out] at cv14
          refine xm [some (.string (bS l2 (g))), some (.bool true), some (.bool true)] (by kernel_rfl) (by simp [xr, go_sem, cv14]) ?_
          simp only [xw, p0, p1, p2, p3]
          clear cv14
          go_upto_region 7 with (fail)
          refine wp_region_lit ?_
          refine xm [some (.slice oub (opL e m T l2 g (srF e n D T l f)) kub)] (by kernel_rfl) (by simp [xr, go_sem]) ?_
          simp only [xw, p0, p1, p2, p3]
          have cv15 := convS (.slice oub (opL e m T l2 g (srF e n D T l f)) kub) (opL e m T l2 g (srF e n D T l f)) (opF D m.toNat g) x12 (hub.out.ext hF.out)
          rw [hbs.out] at cv15
          refine xm [some (.string (bS l (f))), some (.slice o l k)] (by kernel_rfl) (by simp [xr, go_sem, cv15]) ?_
          simp only [xw, p0, p1, p2, p3]
          clear cv15
          have cv16 := convS (.slice o l k) l (f) x12 (hV.out.ext hF.out)
          refine xm [some (.string (bS l (f))), some (.bool true), some (.bool true)] (by kernel_rfl) (by simp [xr, go_sem, cv16]) ?_
          simp only [xw, p0, p1, p2, p3]
          clear cv16
          go_wp2
          go_ret
          exact ⟨rfl, Ext.trans hE.out hF.out⟩
        · have hst : Hid (¬ (bS l2 g).toList = (bS (seL e n l) (seF D n.toNat f)).toList) := fun q => hst9 (ba_ext q)
          clear hst9 hmn9
          go_upto_region 6 with (fail)
          refine wp_region_lit ?_
          refine xm [some (.int .i64 (m)), some (.int .i64 (n)), some (.bool true), some (.bool true), some (.slice o2 l2 k2)] (by kernel_rfl) (by simp [xr, go_sem, hmn.out]) ?_
          simp only [xw, p0, p1, p2, p3]
          have cv13 := convS (.slice o2 l2 k2) l2 (g) x12 (hU.out.ext hF.out)
          refine xm [some (.string (bS l2 (g))), some (.slice ouc (seL e n l) kuc)] (by kernel_rfl) (by simp [xr, go_sem, cv13]) ?_
          simp only [xw, p0, p1, p2, p3]
          clear cv13
          have cv14 := convS (.slice ouc (seL e n l) kuc) (seL e n l) (seF D n.toNat f) x12 (huc.out.ext hF.out)
          refine xm [some (.string (bS (seL e n l) (seF D n.toNat f)))] (by kernel_rfl) (by simp [xr, go_sem, cv14]) ?_
          simp only [xw, p0, p1, p2, p3]
          clear cv14
          refine xm [some (.bool false), some (.bool false)] (by kernel_rfl) (by simp [xr, go_sem, hst.out]) ?_
          simp only [xw, p0, p1, p2, p3]
          go_upto_region 8 with (fail)
          replace Hc5 := hideit Hc5.out.drew
          replace Hz3 := hideit Hz3.out.drew
          replace Hz10 := hideit Hz10.out.drew
          replace hF := hideit (Ext.draw hF.out)
          refine wp_region_lad (fun X => Ext x12.drew X) [(false, 0), (false, 1), (false, 2), (false, 4), (true, 3), (false, 5), (false, 6)] (by kernel_rfl) (by kernel_rfl) (by decide +kernel) (by decide +kernel) (by decide +kernel) (by decide +kernel) (Ext.refl _) ?_
          refine wpX_f _ (.agg (row 65 (ekI e D T)).toArray) rfl rfl (fun X hX => xload 24 (.tmp 5) rfl c5 0 65 _ rfl (Hc5.out.carry hX).range Tryz.underlying24 rfl inf50) ?_
          simp only [List.getElem_toArray, List.getElem_cons_zero, Act.put, List.setIfInBounds_toArray, List.set_cons_zero, List.set_cons_succ]
          refine wpX_f _ (.int .i64 (m)) rfl rfl (fun X _ => by simp [go_sem]) ?_
          simp only [zp4, zp5, zp6, zp0, zp1, zp2, zp3]
          refine wpX_f _ (.slice o2 l2 k2) rfl rfl (fun X _ => by simp [go_sem]) ?_
          simp only [zp4, zp5, zp6, zp0, zp1, zp2, zp3]
          refine wpX_f _ (.agg (row 64 (yv (srF e n D T l f))).toArray) rfl rfl (fun X hX => xload 26 (.tmp 12) rfl z3 0 64 _ rfl (Hz3.out.carry hX).range Tryz.underlying26 rfl inf23) ?_
          simp only [zp4, zp5, zp6, zp0, zp1, zp2, zp3]
          refine wpX_call _ rfl rfl (by simp [go_sem]) ((rOfI_any e m D T (.slice o2 l2 k2) g x12.drew (by rw [← hl2.out]; exact hU.out.ext hF.out) hok.out).mono ?_)
          rintro e y9 ⟨rfl, hX9⟩
          refine ⟨_, rfl, fun X => Ext y9 X, fun X hX => Ext.trans hX9 hX, Ext.refl _, ?_⟩
          simp only [zp4, zp5, zp6, zp0, zp1, zp2, zp3]
          replace Hc5 := hideit (Hc5.out.carry hX9)
          replace Hz3 := hideit (Hz3.out.carry hX9)
          replace Hz10 := hideit (Hz10.out.carry hX9)
          replace hF := hideit (Ext.trans hF.out (hX9))
          clear hX9
          refine wpX_f _ (.bool true) rfl rfl (fun X hX => xcmp .eql 26 26 (.tmp 72) (.tmp 73) rfl _ _ rfl rfl eqG26 true (eql26 (rcF e.toNat m.toNat T g 512) (srF e n D T l f) true ⟨fun _ => hq.out, fun _ => rfl⟩ _)) ?_
          simp only [zp4, zp5, zp6, zp0, zp1, zp2, zp3]
          refine wpX_f _ (.bool true) rfl rfl (fun X _ => by simp [go_sem]) ?_
          simp only [zp4, zp5, zp6, zp0, zp1, zp2, zp3]
          refine wpX_nil ?_
          go_wp2
          go_ret
          exact ⟨rfl, Ext.trans hE.out hF.out⟩
      · have hmn := hideit hmn9
        clear hmn9
        go_upto_region 6 with (fail)
        refine wp_region_lit ?_
        refine xm [some (.int .i64 (m)), some (.int .i64 (n)), some (.bool false), some (.bool false), none, none, none, none, none, some (.bool false)] (by kernel_rfl) (by simp [xr, go_sem, hmn.out]) ?_
        simp only [xw, p0, p1, p2, p3]
        go_upto_region 8 with (fail)
        replace Hc5 := hideit Hc5.out.drew
        replace Hz3 := hideit Hz3.out.drew
        replace Hz10 := hideit Hz10.out.drew
        replace hF := hideit (Ext.draw hF.out)
        refine wp_region_lad (fun X => Ext x12.drew X) [(false, 0), (false, 1), (false, 2), (false, 4), (true, 3), (false, 5), (false, 6)] (by kernel_rfl) (by kernel_rfl) (by decide +kernel) (by decide +kernel) (by decide +kernel) (by decide +kernel) (Ext.refl _) ?_
        refine wpX_f _ (.agg (row 65 (ekI e D T)).toArray) rfl rfl (fun X hX => xload 24 (.tmp 5) rfl c5 0 65 _ rfl (Hc5.out.carry hX).range Tryz.underlying24 rfl inf50) ?_
        simp only [List.getElem_toArray, List.getElem_cons_zero, Act.put, List.setIfInBounds_toArray, List.set_cons_zero, List.set_cons_succ]
        refine wpX_f _ (.int .i64 (m)) rfl rfl (fun X _ => by simp [go_sem]) ?_
        simp only [zp4, zp5, zp6, zp0, zp1, zp2, zp3]
        refine wpX_f _ (.slice o2 l2 k2) rfl rfl (fun X _ => by simp [go_sem]) ?_
        simp only [zp4, zp5, zp6, zp0, zp1, zp2, zp3]
        refine wpX_f _ (.agg (row 64 (yv (srF e n D T l f))).toArray) rfl rfl (fun X hX => xload 26 (.tmp 12) rfl z3 0 64 _ rfl (Hz3.out.carry hX).range Tryz.underlying26 rfl inf23) ?_
        simp only [zp4, zp5, zp6, zp0, zp1, zp2, zp3]
        refine wpX_call _ rfl rfl (by simp [go_sem]) ((rOfI_any e m D T (.slice o2 l2 k2) g x12.drew (by rw [← hl2.out]; exact hU.out.ext hF.out) hok.out).mono ?_)
        rintro e y9 ⟨rfl, hX9⟩
        refine ⟨_, rfl, fun X => Ext y9 X, fun X hX => Ext.trans hX9 hX, Ext.refl _, ?_⟩
        simp only [zp4, zp5, zp6, zp0, zp1, zp2, zp3]
        replace Hc5 := hideit (Hc5.out.carry hX9)
        replace Hz3 := hideit (Hz3.out.carry hX9)
        replace Hz10 := hideit (Hz10.out.carry hX9)
        replace hF := hideit (Ext.trans hF.out (hX9))
        clear hX9
        refine wpX_f _ (.bool true) rfl rfl (fun X hX => xcmp .eql 26 26 (.tmp 72) (.tmp 73) rfl _ _ rfl rfl eqG26 true (eql26 (rcF e.toNat m.toNat T g 512) (srF e n D T l f) true ⟨fun _ => hq.out, fun _ => rfl⟩ _)) ?_
        simp only [zp4, zp5, zp6, zp0, zp1, zp2, zp3]
        refine wpX_f _ (.bool true) rfl rfl (fun X _ => by simp [go_sem]) ?_
        simp only [zp4, zp5, zp6, zp0, zp1, zp2, zp3]
        refine wpX_nil ?_
        go_wp2
        go_ret
        exact ⟨rfl, Ext.trans hE.out hF.out⟩
    · have ho := hideit ho9
      clear ho9 hg9
      go_upto_region 3 with (fail)
      refine wp_region_lit ?_
      refine wpList_call rfl (by simp [go_sem]) ((lives_any y6 (hC.ext (Ext.trans hE.out hF.out))).mono ?_)
      rintro e y7 ⟨rfl, hX8⟩
      refine ⟨_, rfl, ?_⟩
      simp only [zp0, zp1, zp2, zp3]
      replace Hc5 := hideit (Hc5.out.carry hX8)
      replace Hz3 := hideit (Hz3.out.carry hX8)
      replace hF := hideit (Ext.trans hF.out (hX8))
      clear hX8
      refine xm [some (.bool false), some (.bool false), some (.int .i64 (sC e n l)), some (.bool false), some (.bool false), some (.bool false), some (.int .i64 (opC e m T l2 g (srF e n D T l f))), some (.bool true), some (.bool true)] (by kernel_rfl) (by simp [xr, go_sem, hg.out, ho.out]) ?_
      simp only [xw, p0, p1, p2, p3]
      go_upto_region 4 with (fail)
      refine wp_region_lit ?_
      refine wpList_call rfl (by simp [go_sem]) ((lives_any y7 (hC.ext (Ext.trans hE.out hF.out))).mono ?_)
      rintro e y9 ⟨rfl, hX10⟩
      refine ⟨_, rfl, ?_⟩
      simp only [zp0, zp1, zp2, zp3]
      replace Hc5 := hideit (Hc5.out.carry hX10)
      replace Hz3 := hideit (Hz3.out.carry hX10)
      replace hF := hideit (Ext.trans hF.out (hX10))
      clear hX10
      refine xm [some (.bool true)] (by kernel_rfl) (by simp [xr, go_sem]) ?_
      simp only [xw, p0, p1, p2, p3]
      go_wp2
      go_ret
      exact ⟨rfl, Ext.trans hE.out hF.out⟩
  · have hg := hideit hg9
    clear hg9
    go_upto_region 3 with (fail)
    refine wp_region_lit ?_
    refine wpList_call rfl (by simp [go_sem]) ((lives_any y6 (hC.ext (Ext.trans hE.out hF.out))).mono ?_)
    rintro e y7 ⟨rfl, hX8⟩
    refine ⟨_, rfl, ?_⟩
    simp only [zp0, zp1, zp2, zp3]
    replace Hc5 := hideit (Hc5.out.carry hX8)
    replace Hz3 := hideit (Hz3.out.carry hX8)
    replace hF := hideit (Ext.trans hF.out (hX8))
    clear hX8
    refine xm [some (.bool false), some (.bool false), some (.int .i64 (sC e n l)), some (.bool true), some (.bool true), some (.bool true), none, none, some (.bool true)] (by kernel_rfl) (by simp [xr, go_sem, hg.out]) ?_
    simp only [xw, p0, p1, p2, p3]
    go_upto_region 4 with (fail)
    refine wp_region_lit ?_
    refine wpList_call rfl (by simp [go_sem]) ((lives_any y7 (hC.ext (Ext.trans hE.out hF.out))).mono ?_)
    rintro e y9 ⟨rfl, hX10⟩
    refine ⟨_, rfl, ?_⟩
    simp only [zp0, zp1, zp2, zp3]
    replace Hc5 := hideit (Hc5.out.carry hX10)
    replace Hz3 := hideit (Hz3.out.carry hX10)
    replace hF := hideit (Ext.trans hF.out (hX10))
    clear hX10
    refine xm [some (.bool true)] (by kernel_rfl) (by simp [xr, go_sem]) ?_
    simp only [xw, p0, p1, p2, p3]
    go_wp2
    go_ret
    exact ⟨rfl, Ext.trans hE.out hF.out⟩
end Go.Proofs.YtfpfgbhdehbggaaGreatDoor
