/-
  Opening: the program and the document tell the same. How headers that came in read.
-/
import Derived.Test.YtfpfgbhdehbggaaGreatDoorQb1
import Derived.Test.YtfpfgbhdehbggaaGreatDoorQb41
import Derived.Test.YtfpfgbhdehbggaaGreatDoorQb45
import Derived.Test.YtfpfgbhdehbggaaGreatDoorQb8
import Derived.Test.YtfpfgbhdehbggaaGreatDoorQb30
import Derived.Test.YtfpfgbhdehbggaaGreatDoorQb7
import Derived.Deep.Slices
namespace Go.Proofs.YtfpfgbhdehbggaaGreatDoor
open Go.RowKit Go.BigFrame
set_option linter.unusedVariables false
set_option maxRecDepth 20000
set_option maxRecDepth 20000 in
set_option maxHeartbeats 4000000 in
theorem opens_any (e n : Int) (D T : Nat → BitVec 8) (v : Value) (l : Nat) (g R : Nat → BitVec 8) (w : World) (hV : BV v l g w) (h9 : e < 9223372036854775808) (hC : TabC w) : Calls Tryz.prog 4 #[.agg (row 65 (ekI e D T)).toArray, .int .i64 n, v, .agg (row 64 (yv R)).toArray] w fun e' w' => e' = .returned (.bool true) ∧ Ext w w' := by
  obtain ⟨o, k, rfl⟩ := hV.form
  replace hV := hideit hV
  have hE := hideit (Ext.refl w)
  go_enter Tryz.func4, Tryz.ntmps4
  go_upto_region 0 with (fail)
  refine wp_region_lit ?_
  have A0 := hideit (RowAt.new w 65 (ekI e D T) 24)
  have XB : Ext w (w.alloc (.cells (row 65 (ekI e D T)).toArray 24)) := (Below.refl _ _).alloc (Nat.le_refl _) _
  have AE := hideit (Ext.trans hE.out (XB))
  have AB := hideit (hE.out.size)
  clear XB
  refine wpList_to rfl (.pointer (some ⟨w.heap.size, 0, none⟩)) (w.alloc (.cells (row 65 (ekI e D T)).toArray 24)) (by simp [go_sem]) ?_
  simp only [zp0, zp1, zp2, zp3]
  generalize w.alloc (.cells (row 65 (ekI e D T)).toArray 24) = x1 at A0 AE ⊢
  obtain ⟨c4, ec4⟩ : ∃ b, b = w.heap.size := ⟨_, rfl⟩
  have ABc4 : Hid (w.heap.size ≤ c4) := by rw [ec4]; exact AB.out
  clear AB
  rw [← ec4] at A0  ⊢
  clear ec4
  have Hc4 := A0
  clear A0
  replace hE := AE
  clear AE
  have A0 := hideit (RowAt.new x1 64 (yv R) 26)
  have XB : Ext x1 (x1.alloc (.cells (row 64 (yv R)).toArray 26)) := (Below.refl _ _).alloc (Nat.le_refl _) _
  have A1 := hideit (Hc4.out.carry XB)
  have AE := hideit (Ext.trans hE.out (XB))
  have AB := hideit (hE.out.size)
  have D0 : Hid (c4 ≠ x1.heap.size) := Nat.ne_of_lt Hc4.out.2.2
  clear XB
  refine wpList_to rfl (.pointer (some ⟨x1.heap.size, 0, none⟩)) (x1.alloc (.cells (row 64 (yv R)).toArray 26)) (by simp [go_sem]) ?_
  simp only [zp0, zp1, zp2, zp3]
  generalize x1.alloc (.cells (row 64 (yv R)).toArray 26) = x2 at A0 A1 AE ⊢
  obtain ⟨c7, ec7⟩ : ∃ b, b = x1.heap.size := ⟨_, rfl⟩
  have ABc7 : Hid (w.heap.size ≤ c7) := by rw [ec7]; exact AB.out
  clear AB
  rw [← ec7] at A0 D0 ⊢
  clear ec7
  have Hc7 := A0
  clear A0
  replace Hc4 := A1
  clear A1
  replace hE := AE
  clear AE
  have Dc7_0 := D0
  clear D0
  refine xm [some (.bool false)] (by kernel_rfl) (by simp [xr, go_sem]) ?_
  simp only [xw, p0, p1, p2, p3]
  replace hV := hideit (hV.out.ext hE.out)
  have hF := hideit (Ext.refl x2)
  go_upto_region 1 with (fail)
  refine wp_region_lit ?_
  refine wpList_run rfl (.agg (row 65 (ekI e D T)).toArray) (xload 24 (.tmp 4) rfl c4 0 65 _ rfl Hc4.out.range Tryz.underlying24 rfl inf50) ?_
  simp only [zp0, zp1, zp2, zp3]
  refine xm [some (.int .i64 (n)), some (.slice o l k)] (by kernel_rfl) (by simp [xr, go_sem]) ?_
  simp only [xw, p0, p1, p2, p3]
  refine wpList_run rfl (.agg (row 64 (yv R)).toArray) (xload 26 (.tmp 7) rfl c7 0 64 _ rfl Hc7.out.range Tryz.underlying26 rfl inf23) ?_
  simp only [zp0, zp1, zp2, zp3]
  refine wpList_call rfl (by simp [go_sem]) ((open_any e n D T R (.slice o l k) l g x2 (hV.out.ext hF.out) h9 (hC.ext (Ext.trans hE.out hF.out))).mono ?_)
  rintro e y3 ⟨ua, rfl, hua, hXua⟩
  refine ⟨_, rfl, ?_⟩
  simp only [zp0, zp1, zp2, zp3]
  replace Hc4 := hideit (Hc4.out.carry hXua)
  replace Hc7 := hideit (Hc7.out.carry hXua)
  replace hF := hideit (Ext.trans hF.out (hXua))
  obtain ⟨oua, kua, rfl⟩ := hua.form
  replace hua := hideit hua
  clear hXua
  replace hE := hideit (Ext.trans hE.out hF.out)
  replace hV := hideit (hV.out.ext hF.out)
  replace hF := hideit (Ext.refl y3)
  refine xm [some (.tuple #[.slice oua (opL e n T l g R) kua, .int .i64 (opC e n T l g R)]), some (.slice oua (opL e n T l g R) kua), some (.int .i64 (opC e n T l g R)), some (.slice oua (opL e n T l g R) kua), some (.int .i64 (opC e n T l g R))] (by kernel_rfl) (by simp [xr, go_sem]) ?_
  simp only [xw, p0, p1, p2, p3]
  go_upto_region 2 with (fail)
  refine wp_region_lit ?_
  refine wpList_run rfl (.agg (row 65 (ekI e D T)).toArray) (xload 24 (.tmp 4) rfl c4 0 65 _ rfl Hc4.out.range Tryz.underlying24 rfl inf50) ?_
  simp only [zp0, zp1, zp2, zp3]
  refine xm [some (.int .i64 (n)), some (.slice o l k)] (by kernel_rfl) (by simp [xr, go_sem]) ?_
  simp only [xw, p0, p1, p2, p3]
  refine wpList_run rfl (.agg (row 64 (yv R)).toArray) (xload 26 (.tmp 7) rfl c7 0 64 _ rfl Hc7.out.range Tryz.underlying26 rfl inf23) ?_
  simp only [zp0, zp1, zp2, zp3]
  refine wpList_call rfl (by simp [go_sem]) ((ropen_any e n D T R (.slice o l k) l g y3 (hV.out.ext hF.out) h9).mono ?_)
  rintro e y4 ⟨ub, rfl, hub, hXub⟩
  refine ⟨_, rfl, ?_⟩
  simp only [zp0, zp1, zp2, zp3]
  replace Hc4 := hideit (Hc4.out.carry hXub)
  replace Hc7 := hideit (Hc7.out.carry hXub)
  replace hF := hideit (Ext.trans hF.out (hXub))
  obtain ⟨oub, kub, rfl⟩ := hub.form
  replace hub := hideit hub
  clear hXub
  replace hE := hideit (Ext.trans hE.out hF.out)
  replace hV := hideit (hV.out.ext hF.out)
  replace hua := hideit (hua.out.ext hF.out)
  replace hF := hideit (Ext.refl y4)
  refine xm [some (.tuple #[.slice oub (opL e n T l g R) kub, .int .i64 (opC e n T l g R)]), some (.slice oub (opL e n T l g R) kub), some (.int .i64 (opC e n T l g R)), some (.slice oub (opL e n T l g R) kub), some (.int .i64 (opC e n T l g R))] (by kernel_rfl) (by simp [xr, go_sem]) ?_
  simp only [xw, p0, p1, p2, p3]
  go_upto_region 3 with (fail)
  refine wp_region_lit ?_
  refine wpList_run rfl (.agg (row 64 (yv R)).toArray) (xload 26 (.tmp 7) rfl c7 0 64 _ rfl Hc7.out.range Tryz.underlying26 rfl inf23) ?_
  simp only [zp0, zp1, zp2, zp3]
  refine wpList_call rfl (by simp [go_sem]) ((sep_any R y4).mono ?_)
  rintro e y5 ⟨rfl, hX6⟩
  refine ⟨_, rfl, ?_⟩
  simp only [zp0, zp1, zp2, zp3]
  replace Hc4 := hideit (Hc4.out.carry hX6)
  replace Hc7 := hideit (Hc7.out.carry hX6)
  replace hF := hideit (Ext.trans hF.out (hX6))
  clear hX6
  refine xm [some (.tuple #[.int .i64 ((leN R 4).toNat : Int), .int .i64 (epC R)]), some (.int .i64 ((leN R 4).toNat : Int)), some (.int .i64 (epC R)), some (.int .i64 ((leN R 4).toNat : Int)), some (.int .i64 (epC R))] (by kernel_rfl) (by simp [xr, go_sem]) ?_
  simp only [xw, p0, p1, p2, p3]
  go_upto_region 4 with (fail)
  refine wp_region_lit ?_
  refine wpList_run rfl (.agg (row 64 (yv R)).toArray) (xload 26 (.tmp 7) rfl c7 0 64 _ rfl Hc7.out.range Tryz.underlying26 rfl inf23) ?_
  simp only [zp0, zp1, zp2, zp3]
  refine wpList_call rfl (by simp [go_sem]) ((rep_any R y5).mono ?_)
  rintro e y7 ⟨rfl, hX8⟩
  refine ⟨_, rfl, ?_⟩
  simp only [zp0, zp1, zp2, zp3]
  replace Hc4 := hideit (Hc4.out.carry hX8)
  replace Hc7 := hideit (Hc7.out.carry hX8)
  replace hF := hideit (Ext.trans hF.out (hX8))
  clear hX8
  refine xm [some (.tuple #[.int .i64 ((leN R 4).toNat : Int), .int .i64 (epC R)]), some (.int .i64 ((leN R 4).toNat : Int)), some (.int .i64 (epC R)), some (.int .i64 ((leN R 4).toNat : Int)), some (.int .i64 (epC R))] (by kernel_rfl) (by simp [xr, go_sem]) ?_
  simp only [xw, p0, p1, p2, p3]
  go_upto_region 5 with (fail)
  refine wp_region_lit ?_
  refine wpList_call rfl (by simp [go_sem]) ((lives_any y7 (hC.ext (Ext.trans hE.out hF.out))).mono ?_)
  rintro e y9 ⟨rfl, hX10⟩
  refine ⟨_, rfl, ?_⟩
  simp only [zp0, zp1, zp2, zp3]
  replace Hc4 := hideit (Hc4.out.carry hX10)
  replace Hc7 := hideit (Hc7.out.carry hX10)
  replace hF := hideit (Ext.trans hF.out (hX10))
  clear hX10
  refine xm [some (.bool true), some (.slice oua (opL e n T l g R) kua)] (by kernel_rfl) (by simp [xr, go_sem]) ?_
  simp only [xw, p0, p1, p2, p3]
  have cv11 := convS (.slice oua (opL e n T l g R) kua) (opL e n T l g R) (opF D n.toNat g) y9 (hua.out.ext hF.out)
  refine xm [some (.string (bS (opL e n T l g R) (opF D n.toNat g))), some (.slice oub (opL e n T l g R) kub)] (by kernel_rfl) (by simp [xr, go_sem, cv11]) ?_
  simp only [xw, p0, p1, p2, p3]
  clear cv11
  have cv12 := convS (.slice oub (opL e n T l g R) kub) (opL e n T l g R) (opF D n.toNat g) y9 (hub.out.ext hF.out)
  refine xm [some (.string (bS (opL e n T l g R) (opF D n.toNat g))), some (.bool true), some (.bool true), some (.bool true), some (.int .i64 (opC e n T l g R)), some (.int .i64 (opC e n T l g R)), some (.bool true), some (.bool true), some (.bool true), some (.int .i64 ((leN R 4).toNat : Int)), some (.int .i64 ((leN R 4).toNat : Int)), some (.bool true), some (.bool true), some (.bool true), some (.int .i64 (epC R)), some (.int .i64 (epC R)), some (.bool true), some (.bool true), some (.bool true)] (by kernel_rfl) (by simp [xr, go_sem, cv12]) ?_
  simp only [xw, p0, p1, p2, p3]
  clear cv12
  go_wp2
  go_ret
  exact ⟨rfl, Ext.trans hE.out hF.out⟩
end Go.Proofs.YtfpfgbhdehbggaaGreatDoor
namespace Go.Proofs.YtfpfgbhdehbggaaGreatDoor
set_option maxRecDepth 100000
open Go.ChangeShapes Go.WideShapes Go.ChangeAt Go.RowKit
theorem arr_cells {H : Type} {enc : TypeId × Value → H} {W : World} {base : Nat} {spare : Nat → Bool} {held : Bool} {n : Nat} {cs : List Value} {x : DataW H × List MemPlace} {t : TypeId} {N : Nat} (hu : Tryz.prog.underlying t = some (.array N 5)) (h : DataW.trod enc Tryz.prog W base spare held n t cs = some x) :
    ∃ f : Nat → BitVec 8, ∀ i, i < N → cs[i]? = some (.int .u8 ((f i).toNat : Int)) := by
  have hc5 : Tryz.prog.cellsOf 5 = 1 := by kernel_rfl
  obtain ⟨xs, m, _, _, _, hxl, hx⟩ := DataW.trod_array hu h
  have hall : ∀ i, i < N → ∃ b : BitVec 8, cs[i]? = some (.int .u8 (b.toNat : Int)) := by
    intro i hi
    have h1 := hx i hi
    rw [List.getElem?_eq_getElem (by omega)] at h1
    obtain ⟨n, e0, _, w0⟩ := DataW.trod_int Tryz.underlying5 h1
    obtain ⟨b, rfl⟩ := of_wf8 w0
    refine ⟨b, ?_⟩
    rw [hc5] at e0
    have h2 : (List.take 1 (List.drop (i * 1) cs))[0]? = some (.int .u8 (b.toNat : Int)) := by rw [e0]; rfl
    simpa [List.getElem?_take, List.getElem?_drop] using h2
  refine ⟨fun i => if h : i < N then (hall i h).choose else 0#8, fun i hi => ?_⟩
  rw [(hall i hi).choose_spec]
  simp only [dif_pos hi]
theorem sub_cells {cs : List Value} {off m i : Nat} (hi : i < m) : ((cs.drop off).take m)[i]? = cs[off + i]? := by
  rw [List.getElem?_take_of_lt hi, List.getElem?_drop]
theorem row_of {cs : List Value} {n : Nat} {g : Nat → Value} (hl : cs.length = n) (h : ∀ i, i < n → cs[i]? = some (g i)) : cs = row n g := by
  apply List.ext_getElem?
  intro i
  by_cases hi : i < n
  · rw [h i hi, row_get n g i hi]
  · rw [List.getElem?_eq_none (by omega), List.getElem?_eq_none (by rw [row_length]; omega)]
theorem okWide_st {P : Program} {w : World} {r : Reach} {base : Nat} {t : TypeId} {v : Value} {fs : Array Field} (ht : P.underlying t = some (.struct fs)) (h : Value.okWide P w r base t v) : ∃ cs, v = .agg cs ∧ cs.size = P.cellsOf t ∧ Row.okWide P w r base t cs := by
  unfold Value.okWide at h
  rw [ht] at h
  exact h
theorem trod_st {H : Type} {enc : TypeId × Value → H} {P : Program} {w : World} {base : Nat} {spare : Nat → Bool} {held : Bool} {t : TypeId} {fs : List Field} {fuel : Nat} {cs : List Value} {x : DataW H × List MemPlace} (ht : P.underlying t = some (.struct fs.toArray)) (h : DataW.trod enc P w base spare held fuel t cs = some x) :
    ∃ n, cs.length = P.cellsOf t ∧ ∀ (i : Nat) (f : Field), fs[i]? = some f → ∃ y, DataW.trod enc P w base spare held n f.type ((cs.drop f.offset).take (P.cellsOf f.type)) = some y := by
  obtain ⟨xs, n, _, _, hl, hlen, hf⟩ := DataW.trod_struct ht h
  refine ⟨n, hl, fun i f hi => ?_⟩
  have hi2 : fs.toArray[i]? = some f := by simpa using hi
  have hlt : i < xs.length := by
    have := (List.getElem?_eq_some_iff.1 hi).1
    simp at hlen
    omega
  refine ⟨xs[i], ?_⟩
  rw [hf i f hi2, List.getElem?_eq_getElem hlt]
set_option maxRecDepth 100000 in
theorem keys_cells {H : Type} {enc : TypeId × Value → H} {W : World} {base : Nat} {spare : Nat → Bool} {held : Bool} {n : Nat} {cs : List Value} {x : DataW H × List MemPlace} (h : DataW.trod enc Tryz.prog W base spare held n 24 cs = some x) :
    ∃ e D T, cs = row 65 (ekI e D T) ∧ (Lit.int .i64 e).wf = true := by
  have hC : Tryz.prog.cellsOf 24 = 65 := by kernel_rfl
  have c3 : Tryz.prog.cellsOf 3 = 1 := by kernel_rfl
  have c22 : Tryz.prog.cellsOf 22 = 32 := by kernel_rfl
  obtain ⟨m, hl, hf⟩ := trod_st (fs := [_, _, _]) Tryz.underlying24 h
  rw [hC] at hl
  obtain ⟨y0, h0⟩ := hf 0 _ rfl
  obtain ⟨y1, h1⟩ := hf 1 _ rfl
  obtain ⟨y2, h2⟩ := hf 2 _ rfl
  simp only [c3, c22] at h0 h1 h2
  obtain ⟨k0, e0, _, w0⟩ := DataW.trod_int Tryz.underlying3 h0
  obtain ⟨D, e1⟩ := arr_cells Tryz.underlying22 h1
  obtain ⟨T, e2⟩ := arr_cells Tryz.underlying22 h2
  have q0 := congrArg (·[0]?) e0
  simp only [sub_cells (show 0 < 1 by decide)] at q0
  refine ⟨k0, D, T, row_of hl fun i hi => ?_, w0⟩
  by_cases c1 : i < 1
  · obtain rfl : i = 0 := by omega
    exact q0
  · by_cases c2 : i < 33
    · have := e1 (i - 1) (by omega)
      rw [sub_cells (by omega), show 1 + (i - 1) = i by omega] at this
      rw [this]
      unfold ekI
      rw [if_neg (by omega), if_pos c2]
      rfl
    · have := e2 (i - 33) (by omega)
      rw [sub_cells (by omega), show 33 + (i - 33) = i by omega] at this
      rw [this]
      unfold ekI
      rw [if_neg (by omega), if_neg c2]
      rfl
theorem open_keys {H : Type} {enc : TypeId × Value → H} {W : World} {r : Reach} {b0 base : Nat} {spare : Nat → Bool} {held : Bool} {v : Value} {d : DataW H} {p : List MemPlace}
    (hv : Value.okWide Tryz.prog W r b0 24 v) (h : DataW.Trod enc Tryz.prog W base spare held 24 v d p) : ∃ e D T, v = .agg (row 65 (ekI e D T)).toArray ∧ (Lit.int .i64 e).wf = true := by
  obtain ⟨cs, rfl, _, _⟩ := okWide_st Tryz.underlying24 hv
  obtain ⟨fuel, hf⟩ := h
  obtain ⟨e, D, T, q, hw⟩ := keys_cells hf
  refine ⟨e, D, T, ?_, hw⟩
  rw [← q]
  simp [Value.cells]
theorem keys_lt {e : Int} (h : (Lit.int .i64 e).wf = true) : e < 9223372036854775808 := by
  have q := bounds_i64 h
  omega
end Go.Proofs.YtfpfgbhdehbggaaGreatDoor
