/-
  A sector is sealed. A sector is opened.
-/
import Derived.Test.YtgjabfjkokpkiaaDoorQ1
import Derived.Test.YtgjabfjkokpkiaaDoorQ43
import Derived.Test.YtgjabfjkokpkiaaDoorQ39
import Derived.Test.YtgjabfjkokpkiaaDoorQ21
import Derived.Test.YtgjabfjkokpkiaaDoorQ14
import Derived.Test.YtgjabfjkokpkiaaDoorQ41
namespace Go.Proofs.YtgjabfjkokpkiaaDoor
open Go.RowKit Go.BigFrame
set_option linter.unusedVariables false
set_option maxRecDepth 20000
theorem own_cells {base : Nat} {e : TypeId} {v : Value} {n : Nat} {g : Nat → Value} {b : Nat} : ∀ {w : World} (_ : OwnB base e v n g w) (_ : v.ownBlock ≠ some b) (vs : List Value) (o : Nat), OwnB base e v n g (w.setCells b o vs)
  | _, h, _, [], _ => h
  | w, h, hb, u :: r, o => by
    rw [World.setCells]
    exact own_cells (h.other ⟨b, o, none⟩ hb u) hb r (o + 1)
theorem inf50 : (Tryd.prog.info? 50).map (·.size) = some 65 := by kernel_rfl
theorem ret_rowm {P : Program} {F : Func} {tmps : Array Value} {k k1 k2 : Nat} {t : TypeId} {b n : Nat} {g : Nat → Value} {X : World} {d : TypeDesc} (hF : F.results = #[.tmp k1, .cell k t, .tmp k2]) (ht : tmps.getD k undef = .pointer (some ⟨b, 0, none⟩)) (h : RowAt b n g X)
    (hu : P.underlying t = some d) (hd : d.isRow = true) (hi : (P.info? t).map (·.size) = some n) : Sem.run P (results F tmps) X = .ok (.tuple #[tmps.getD k1 undef, .agg (row n g).toArray, tmps.getD k2 undef]) X := by
  have hl := run_loadVar_mid (P := P) X b 0 t (row n g) d h.range hu hd (by rw [row_length]; exact hi)
  unfold results
  rw [hF]
  simp only [List.mapM_toArray, List.mapM_cons, List.mapM_nil, ht]
  simp [asAddr, hl]
def seF (D : Nat → BitVec 8) (n : Nat) (f : Nat → BitVec 8) : Nat → BitVec 8 := xE (schedK 4 D) (schedK 4 fun j => D (16 + j)) 10 (n4 n) f 512
theorem sum512 : sumL (rlS 512) 4 < 576460752303423488 := by decide
set_option maxRecDepth 20000 in
set_option maxHeartbeats 4000000 in
theorem seal_ok (e n : Nat) (D T : Nat → BitVec 8) (v : Value) (f : Nat → BitVec 8) (w : World) (hV : BV v 512 f w) (hC : TabC w) (he1 : 1 ≤ e) (he : e < 4294967296) (hn : n < 1024) : Calls Tryd.prog 19 #[.agg (row 65 (ekV e D T)).toArray, .int .i64 (n : Int), v] w fun e' w' => ∃ v', e' = .returned (.tuple #[v', .agg (row 64 (yv (rcF e n T (seF D n f) 512))).toArray, .int .i64 0]) ∧ OwnB w.heap.size 5 v' 512 (yv (seF D n f)) w' ∧ Ext w w' := by
  have hcn : IntKind.u64.wrap (n : Int) = ((n4 n).toNat : Int) := by rw [n4_nat (by omega), IntKind.wrap_u64]; omega
  obtain ⟨vo, vc, rfl⟩ := hV.form
  have hE := hideit (Ext.refl w)
  go_enter Tryd.func19, Tryd.ntmps19
  go_upto_region 0 with (fail)
  refine wp_region_lit ?_
  have A0 := hideit (RowAt.new w 65 (ekV e D T) 50)
  have XB : Ext w (w.alloc (.cells (row 65 (ekV e D T)).toArray 50)) := (Below.refl _ _).alloc (Nat.le_refl _) _
  have AE := hideit (Ext.trans hE.out (XB))
  have AB := hideit (hE.out.size)
  clear XB
  refine wpList_to rfl (.pointer (some ⟨w.heap.size, 0, none⟩)) (w.alloc (.cells (row 65 (ekV e D T)).toArray 50)) (by simp [go_sem]) ?_
  simp only [zp0, zp1, zp2, zp3]
  generalize w.alloc (.cells (row 65 (ekV e D T)).toArray 50) = x1 at A0 AE ⊢
  obtain ⟨c3, ec3⟩ : ∃ b, b = w.heap.size := ⟨_, rfl⟩
  have ABc3 : Hid (w.heap.size ≤ c3) := by rw [ec3]; exact AB.out
  clear AB
  rw [← ec3] at A0  ⊢
  clear ec3
  have Hc3 := A0
  clear A0
  replace hE := AE
  clear AE
  refine xm [some (.slice none 0 0)] (by kernel_rfl) (by simp [xr, go_sem]) ?_
  simp only [xw, p0, p1, p2, p3]
  have A0 := hideit (RowAt.new x1 64 (yv fun _ => 0#8) 23)
  have A1 := hideit (Hc3.out.alloc (.cells (row 64 (yv fun _ => 0#8)).toArray 23))
  have AE := hideit (Below.alloc hE.out (Below.size hE.out) (.cells (row 64 (yv fun _ => 0#8)).toArray 23))
  have AB := hideit (Below.size hE.out)
  have D0 : Hid (c3 ≠ x1.heap.size) := Nat.ne_of_lt Hc3.out.2.2
  refine wpList_to rfl (.pointer (some ⟨x1.heap.size, 0, none⟩)) (x1.alloc (.cells (row 64 (yv fun _ => 0#8)).toArray 23)) (xalloc 23 (row 64 (yv fun _ => 0#8)).toArray rfl (zero23 x1)) ?_
  simp only [zp0, zp1, zp2, zp3]
  generalize x1.alloc (.cells (row 64 (yv fun _ => 0#8)).toArray 23) = x3 at A0 A1 AE ⊢
  obtain ⟨z2, ez2⟩ : ∃ b, b = x1.heap.size := ⟨_, rfl⟩
  rw [← ez2] at A0 D0 AB ⊢
  clear ez2
  have Hz2 := A0
  clear A0
  replace Hc3 := A1
  clear A1
  replace hE := AE
  clear AE
  have ABz2 := AB
  clear AB
  have Dz2_0 := D0
  clear D0
  refine xm [some (.int .i64 0)] (by kernel_rfl) (by simp [xr, go_sem]) ?_
  simp only [xw, p0, p1, p2, p3]
  go_upto_region 1 with (fail)
  refine wp_region_lit ?_
  refine wpList_run rfl (.agg (row 65 (ekV e D T)).toArray) (xload 50 (.tmp 3) rfl c3 0 65 _ rfl Hc3.out.range Tryd.underlying50 rfl inf50) ?_
  simp only [zp0, zp1, zp2, zp3]
  refine xm [some (.int .i64 (n : Int)), some (.slice vo 512 vc)] (by kernel_rfl) (by simp [xr, go_sem]) ?_
  simp only [xw, p0, p1, p2, p3]
  refine wpList_call rfl (by simp [go_sem]) ((cip_ok e n D T vo vc x3 he1 he hn).mono ?_)
  rintro e y1 ⟨q, c1, c2, rfl, hP, hX1⟩
  refine ⟨_, rfl, ?_⟩
  simp only [zp0, zp1, zp2, zp3]
  replace Hc3 := hideit (Hc3.out.carry hX1)
  replace Hz2 := hideit (Hz2.out.carry hX1)
  replace hE := hideit (Ext.trans hE.out (hX1))
  replace hP := hideit hP
  clear hX1
  refine xm [some (.tuple #[.pointer (some ⟨q, 0, none⟩), .int .i64 0]), some (.pointer (some ⟨q, 0, none⟩)), some (.int .i64 0), some (.pointer (some ⟨q, 0, none⟩)), some (.int .i64 0)] (by kernel_rfl) (by simp [xr, go_sem]) ?_
  simp only [xw, p0, p1, p2, p3]
  go_upto_region 2 with (fail)
  refine wp_region_lit ?_
  refine xm [some (.int .i64 0), some (.bool false)] (by kernel_rfl) (by simp [xr, go_sem]) ?_
  simp only [xw, p0, p1, p2, p3]
  go_upto_region 4 with (fail)
  refine wp_region_lit ?_
  refine xm [some (.pointer (some ⟨q, 0, none⟩)), some (.int .i64 (n : Int))] (by kernel_rfl) (by simp [xr, go_sem]) ?_
  simp only [xw, p0, p1, p2, p3]
  refine xm [some (.int .u64 ((n4 n).toNat : Int)), some (.slice vo 512 vc)] (by kernel_rfl) (by simp [xr, go_sem, hcn]) ?_
  simp only [xw, p0, p1, p2, p3]
  have hb1 := hideit (Below.size hE.out)
  have hzl := hideit Hz2.out.2.2
  refine wpList_call rfl (by simp [go_sem]) ((xencV q c1 c2 10 512 _ _ (by decide) (by decide) (n4 n) (.slice vo 512 vc) f y1 hP.out (by decide) (by decide) (hV.ext hE.out)).mono ?_)
  rintro e y2 ⟨v6, rfl, hO, hX2⟩
  refine ⟨_, rfl, ?_⟩
  simp only [zp0, zp1, zp2, zp3]
  replace Hc3 := hideit (Hc3.out.carry hX2)
  replace Hz2 := hideit (Hz2.out.carry hX2)
  replace hE := hideit (Ext.trans hE.out (hX2))
  obtain ⟨v6o, v6c, rfl⟩ := hO.bv.form
  have hO6 := hideit (show OwnB y1.heap.size 5 (.slice v6o 512 v6c) 512 (yv (seF D n f)) y2 from hO)
  clear hX2 hO hP
  refine xm [some (.tuple #[.slice v6o 512 v6c, .int .i64 0]), some (.slice v6o 512 v6c), some (.int .i64 0), some (.slice v6o 512 v6c), some (.int .i64 0)] (by kernel_rfl) (by simp [xr, go_sem]) ?_
  simp only [xw, p0, p1, p2, p3]
  go_upto_region 5 with (fail)
  refine wp_region_lit ?_
  refine xm [some (.int .i64 0), some (.bool false)] (by kernel_rfl) (by simp [xr, go_sem]) ?_
  simp only [xw, p0, p1, p2, p3]
  go_upto_region 7 with (fail)
  refine wp_region_lit ?_
  refine xm [some (.slice v6o 512 v6c)] (by kernel_rfl) (by simp [xr, go_sem]) ?_
  simp only [xw, p0, p1, p2, p3]
  refine wpList_run rfl (.agg (row 65 (ekV e D T)).toArray) (xload 50 (.tmp 3) rfl c3 0 65 _ rfl Hc3.out.range Tryd.underlying50 rfl inf50) ?_
  simp only [zp0, zp1, zp2, zp3]
  refine xm [some (.int .i64 (n : Int)), some (.slice v6o 512 v6c)] (by kernel_rfl) (by simp [xr, go_sem]) ?_
  simp only [xw, p0, p1, p2, p3]
  refine wpList_call rfl (by simp [go_sem]) ((rof_any e n D T (.slice v6o 512 v6c) 512 (seF D n f) y2 hO6.out.bv (hC.ext hE.out) he (by omega) sum512).mono ?_)
  rintro e y3 ⟨rfl, hX3⟩
  refine ⟨_, rfl, ?_⟩
  simp only [zp0, zp1, zp2, zp3]
  replace Hc3 := hideit (Hc3.out.carry hX3)
  replace Hz2 := hideit (Hz2.out.carry hX3)
  replace hE := hideit (Ext.trans hE.out (hX3))
  replace hO6 := hideit (hO6.out.ext hX3)
  clear hX3
  refine xm [some (.slice v6o 512 v6c)] (by kernel_rfl) (by simp [xr, go_sem]) ?_
  simp only [xw, p0, p1, p2, p3]
  have N0 := hideit (Hz2.out.cells (g' := yv (rcF e n T (seF D n f) 512)))
  have N1 := hideit (Hc3.out.cellsOther (Ne.symm (Dz2_0.out)) (row 64 (yv (rcF e n T (seF D n f) 512))) 0)
  have NE := hideit (below_setCells z2 (ABz2.out) (row 64 (yv (rcF e n T (seF D n f) 512))) 0 _ hE.out)
  have hO9 := hideit ((own_cells hO6.out (b := z2) (fun q => by have h1 := (hO6.out.lt _ q).1; have h2 := hzl.out; omega) (row 64 (yv (rcF e n T (seF D n f) 512))) 0).down hb1.out)
  refine xst rfl (y3.setCells z2 0 (row 64 (yv (rcF e n T (seF D n f) 512)))) (xstore 23 (.tmp 7) (.tmp 39) rfl z2 64 _ (yv (rcF e n T (seF D n f) 512)) rfl rfl Hz2.out inf23 (fun j _ => rfl)) ?_
  simp only [Act.put]
  generalize y3.setCells z2 0 (row 64 (yv (rcF e n T (seF D n f) 512))) = x4 at N0 N1 NE hO9 ⊢
  replace Hz2 := N0
  replace Hc3 := N1
  replace hE := NE
  clear N0 N1 NE
  refine xm [some (.int .i64 0)] (by kernel_rfl) (by simp [xr, go_sem]) ?_
  simp only [xw, p0, p1, p2, p3]
  go_wp2
  exact bodyPost_ret (ret_rowm rfl rfl (Hz2.out) Tryd.underlying23 rfl inf23) rfl ⟨_, rfl, hO9.out, hE.out⟩
end Go.Proofs.YtgjabfjkokpkiaaDoor
namespace Go.Proofs.YtgjabfjkokpkiaaDoor
open Go.RowKit Go.BigFrame
set_option linter.unusedVariables false
set_option maxRecDepth 20000
def opF (D : Nat → BitVec 8) (n : Nat) (g : Nat → BitVec 8) : Nat → BitVec 8 := xD (schedK 4 D) (schedK 4 fun j => D (16 + j)) 10 (n4 n) g 512
theorem op_se (D : Nat → BitVec 8) (n : Nat) (f : Nat → BitVec 8) (j : Nat) (hj : j < 512) : opF D n (seF D n f) j = f j := xD_xE _ _ 10 (by decide) (n4 n) f 512 (by decide) j hj
set_option maxRecDepth 20000 in
set_option maxHeartbeats 4000000 in
theorem open_yes (e n : Nat) (D T R : Nat → BitVec 8) (v : Value) (g : Nat → BitVec 8) (w : World) (hV : BV v 512 g w) (hC : TabC w) (he1 : 1 ≤ e) (he : e < 4294967296) (hn : n < 1024) (hR : ∀ j, j < 64 → R j = rcF e n T g 512 j) : Calls Tryd.prog 21 #[.agg (row 65 (ekV e D T)).toArray, .int .i64 (n : Int), v, .agg (row 64 (yv R)).toArray] w fun e' w' => ∃ v', e' = .returned (.tuple #[v', .int .i64 0]) ∧ OwnB w.heap.size 5 v' 512 (yv (opF D n g)) w' ∧ Ext w w' := by
  have hr : true = true ↔ 64 = 64 ∧ ∀ j, j < 64 → R j = rcF e n T g 512 j := ⟨fun _ => ⟨rfl, hR⟩, fun _ => rfl⟩
  have hcn : IntKind.u64.wrap (n : Int) = ((n4 n).toNat : Int) := by rw [n4_nat (by omega), IntKind.wrap_u64]; omega
  obtain ⟨vo, vc, rfl⟩ := hV.form
  have hE := hideit (Ext.refl w)
  go_enter Tryd.func21, Tryd.ntmps21
  go_upto_region 0 with (fail)
  refine wp_region_lit ?_
  have A0 := hideit (RowAt.new w 65 (ekV e D T) 50)
  have XB : Ext w (w.alloc (.cells (row 65 (ekV e D T)).toArray 50)) := (Below.refl _ _).alloc (Nat.le_refl _) _
  have AE := hideit (Ext.trans hE.out (XB))
  have AB := hideit (hE.out.size)
  clear XB
  refine wpList_to rfl (.pointer (some ⟨w.heap.size, 0, none⟩)) (w.alloc (.cells (row 65 (ekV e D T)).toArray 50)) (by simp [go_sem]) ?_
  simp only [zp0, zp1, zp2, zp3]
  generalize w.alloc (.cells (row 65 (ekV e D T)).toArray 50) = x1 at A0 AE ⊢
  obtain ⟨c4, ec4⟩ : ∃ b, b = w.heap.size := ⟨_, rfl⟩
  have ABc4 : Hid (w.heap.size ≤ c4) := by rw [ec4]; exact AB.out
  clear AB
  rw [← ec4] at A0  ⊢
  clear ec4
  have Hc4 := A0
  clear A0
  replace hE := AE
  clear AE
  have A0 := hideit (RowAt.new x1 64 (yv R) 23)
  have XB : Ext x1 (x1.alloc (.cells (row 64 (yv R)).toArray 23)) := (Below.refl _ _).alloc (Nat.le_refl _) _
  have A1 := hideit (Hc4.out.carry XB)
  have AE := hideit (Ext.trans hE.out (XB))
  have AB := hideit (hE.out.size)
  have D0 : Hid (c4 ≠ x1.heap.size) := Nat.ne_of_lt Hc4.out.2.2
  clear XB
  refine wpList_to rfl (.pointer (some ⟨x1.heap.size, 0, none⟩)) (x1.alloc (.cells (row 64 (yv R)).toArray 23)) (by simp [go_sem]) ?_
  simp only [zp0, zp1, zp2, zp3]
  generalize x1.alloc (.cells (row 64 (yv R)).toArray 23) = x2 at A0 A1 AE ⊢
  obtain ⟨c7, ec7⟩ : ∃ b, b = x1.heap.size := ⟨_, rfl⟩
  have ABc7 : Hid (w.heap.size ≤ c7) := by rw [ec7]; exact AB.out
  clear AB
  rw [← ec7] at A0 D0 ⊢
  clear ec7
  have Hc7 := A0
  clear A0
  replace Hc4 := A1
  clear A1
  replace hE := AE
  clear AE
  have Dc7_0 := D0
  clear D0
  refine xm [some (.slice none 0 0), some (.int .i64 0)] (by kernel_rfl) (by simp [xr, go_sem]) ?_
  simp only [xw, p0, p1, p2, p3]
  go_upto_region 1 with (fail)
  refine wp_region_lit ?_
  refine wpList_run rfl (.agg (row 65 (ekV e D T)).toArray) (xload 50 (.tmp 4) rfl c4 0 65 _ rfl Hc4.out.range Tryd.underlying50 rfl inf50) ?_
  simp only [zp0, zp1, zp2, zp3]
  refine xm [some (.int .i64 (n : Int)), some (.slice vo 512 vc)] (by kernel_rfl) (by simp [xr, go_sem]) ?_
  simp only [xw, p0, p1, p2, p3]
  refine wpList_call rfl (by simp [go_sem]) ((cip_ok e n D T vo vc x2 he1 he hn).mono ?_)
  rintro e y1 ⟨q, c1, c2, rfl, hP, hX1⟩
  refine ⟨_, rfl, ?_⟩
  simp only [zp0, zp1, zp2, zp3]
  replace Hc4 := hideit (Hc4.out.carry hX1)
  replace Hc7 := hideit (Hc7.out.carry hX1)
  replace hE := hideit (Ext.trans hE.out (hX1))
  replace hP := hideit hP
  have hY := hideit (Ext.refl y1)
  clear hX1
  refine xm [some (.tuple #[.pointer (some ⟨q, 0, none⟩), .int .i64 0]), some (.pointer (some ⟨q, 0, none⟩)), some (.int .i64 0), some (.pointer (some ⟨q, 0, none⟩)), some (.int .i64 0)] (by kernel_rfl) (by simp [xr, go_sem]) ?_
  simp only [xw, p0, p1, p2, p3]
  go_upto_region 2 with (fail)
  refine wp_region_lit ?_
  refine xm [some (.int .i64 0), some (.bool false)] (by kernel_rfl) (by simp [xr, go_sem]) ?_
  simp only [xw, p0, p1, p2, p3]
  go_upto_region 4 with (fail)
  refine wp_region_lit ?_
  refine wpList_run rfl (.agg (row 65 (ekV e D T)).toArray) (xload 50 (.tmp 4) rfl c4 0 65 _ rfl Hc4.out.range Tryd.underlying50 rfl inf50) ?_
  simp only [zp0, zp1, zp2, zp3]
  refine xm [some (.int .i64 (n : Int)), some (.slice vo 512 vc)] (by kernel_rfl) (by simp [xr, go_sem]) ?_
  simp only [xw, p0, p1, p2, p3]
  refine wpList_call rfl (by simp [go_sem]) ((rof_any e n D T (.slice vo 512 vc) 512 g y1 (hV.ext (Ext.trans hE.out hY.out)) (hC.ext (Ext.trans hE.out hY.out)) he (by omega) sum512).mono ?_)
  rintro e y3 ⟨rfl, hX3⟩
  refine ⟨_, rfl, ?_⟩
  simp only [zp0, zp1, zp2, zp3]
  replace Hc4 := hideit (Hc4.out.carry hX3)
  replace Hc7 := hideit (Hc7.out.carry hX3)
  replace hY := hideit (Ext.trans hY.out (hX3))
  clear hX3
  have A0 := hideit (RowAt.new y3 64 (yv fun _ => 0#8) 23)
  have A1 := hideit (Hc4.out.alloc (.cells (row 64 (yv fun _ => 0#8)).toArray 23))
  have A2 := hideit (Hc7.out.alloc (.cells (row 64 (yv fun _ => 0#8)).toArray 23))
  have AE := hideit (Below.alloc hY.out (Below.size hY.out) (.cells (row 64 (yv fun _ => 0#8)).toArray 23))
  have AB := hideit (Below.size hY.out)
  have D0 : Hid (c4 ≠ y3.heap.size) := Nat.ne_of_lt Hc4.out.2.2
  have D1 : Hid (c7 ≠ y3.heap.size) := Nat.ne_of_lt Hc7.out.2.2
  refine wpList_to rfl (.pointer (some ⟨y3.heap.size, 0, none⟩)) (y3.alloc (.cells (row 64 (yv fun _ => 0#8)).toArray 23)) (xalloc 23 (row 64 (yv fun _ => 0#8)).toArray rfl (zero23 y3)) ?_
  simp only [zp0, zp1, zp2, zp3]
  generalize y3.alloc (.cells (row 64 (yv fun _ => 0#8)).toArray 23) = x4 at A0 A1 A2 AE ⊢
  obtain ⟨z3, ez3⟩ : ∃ b, b = y3.heap.size := ⟨_, rfl⟩
  rw [← ez3] at A0 D0 D1 AB ⊢
  clear ez3
  have Hz3 := A0
  clear A0
  replace Hc4 := A1
  clear A1
  replace Hc7 := A2
  clear A2
  replace hY := AE
  clear AE
  have ABz3 := AB
  clear AB
  have Dz3_0 := D0
  clear D0
  have Dz3_1 := D1
  clear D1
  have N0 := hideit (Hz3.out.cells (g' := yv (rcF e n T g 512)))
  have N1 := hideit (Hc4.out.cellsOther (Ne.symm (Dz3_0.out)) (row 64 (yv (rcF e n T g 512))) 0)
  have N2 := hideit (Hc7.out.cellsOther (Ne.symm (Dz3_1.out)) (row 64 (yv (rcF e n T g 512))) 0)
  have NE := hideit (below_setCells z3 (ABz3.out) (row 64 (yv (rcF e n T g 512))) 0 _ hY.out)
  refine xst rfl (x4.setCells z3 0 (row 64 (yv (rcF e n T g 512)))) (xstore 23 (.tmp 12) (.tmp 26) rfl z3 64 _ (yv (rcF e n T g 512)) rfl rfl Hz3.out inf23 (fun j _ => rfl)) ?_
  simp only [Act.put]
  generalize x4.setCells z3 0 (row 64 (yv (rcF e n T g 512))) = x5 at N0 N1 N2 NE ⊢
  replace Hz3 := N0
  replace Hc4 := N1
  replace Hc7 := N2
  replace hY := NE
  clear N0 N1 N2 NE
  go_upto_region 5 with (fail)
  replace Hc4 := hideit Hc4.out.drew
  replace Hc7 := hideit Hc7.out.drew
  replace Hz3 := hideit Hz3.out.drew
  replace hY := hideit (Ext.draw hY.out)
  refine wp_region_ladz (fun X => Ext x5.drew X) [2] [(false, 0), (false, 1), (true, 2), (false, 3)] (by kernel_rfl) (by kernel_rfl) (by decide +kernel) (by decide +kernel) (by decide +kernel) (by decide +kernel) (Ext.refl _) ?_
  refine wpZ_f _ (.slice (some ⟨c7, 0, none⟩) 64 64) rfl rfl (fun X _ => by simp [go_sem]) ?_
  simp only [List.getElem_toArray, List.getElem_cons_zero, Act.put, List.setIfInBounds_toArray, List.set_cons_zero, List.set_cons_succ]
  refine wpZ_f _ (.slice (some ⟨z3, 0, none⟩) 64 64) rfl rfl (fun X _ => by simp [go_sem]) ?_
  simp only [zp4, zp5, zp6, zp0, zp1, zp2, zp3]
  refine wpZ_call _ rfl rfl (by simp [go_sem]) ((equal_any (.slice (some ⟨c7, 0, none⟩) 64 64) (.slice (some ⟨z3, 0, none⟩) 64 64) 64 64 R (rcF e n T g 512) x5.drew (.inr ⟨⟨c7, 0, none⟩, 64, rfl, Nat.le_refl _, RowAt.lie Hc7.out 64 (Nat.le_refl _)⟩) (.inr ⟨⟨z3, 0, none⟩, 64, rfl, Nat.le_refl _, RowAt.lie Hz3.out 64 (Nat.le_refl _)⟩) (by decide) (by decide) true hr).mono ?_)
  rintro e _ ⟨rfl, rfl⟩
  refine ⟨_, rfl, fun X => Ext x5.drew X, .inr (fun X hX => hX), Ext.refl _, ?_⟩
  simp only [zp4, zp5, zp6, zp0, zp1, zp2, zp3]
  refine wpZ_f _ (.bool false) rfl rfl (fun X _ => by simp [go_sem]) ?_
  simp only [zp4, zp5, zp6, zp0, zp1, zp2, zp3]
  refine wpZ_nil ?_
  go_upto_region 7 with (fail)
  refine wp_region_lit ?_
  refine xm [some (.pointer (some ⟨q, 0, none⟩)), some (.int .i64 (n : Int))] (by kernel_rfl) (by simp [xr, go_sem]) ?_
  simp only [xw, p0, p1, p2, p3]
  refine xm [some (.int .u64 ((n4 n).toNat : Int)), some (.slice vo 512 vc)] (by kernel_rfl) (by simp [xr, go_sem, hcn]) ?_
  simp only [xw, p0, p1, p2, p3]
  have hb := hideit (Below.size (Ext.trans hE.out hY.out))
  refine wpList_call rfl (by simp [go_sem]) ((xdecV q c1 c2 10 512 _ _ (by decide) (by decide) (n4 n) (.slice vo 512 vc) g x5.drew (hP.out.ext hY.out) (by decide) (by decide) (hV.ext (Ext.trans hE.out hY.out))).mono ?_)
  rintro e y6 ⟨v6, rfl, hO, hX6⟩
  refine ⟨_, rfl, ?_⟩
  simp only [zp0, zp1, zp2, zp3]
  replace Hc4 := hideit (Hc4.out.carry hX6)
  replace Hc7 := hideit (Hc7.out.carry hX6)
  replace Hz3 := hideit (Hz3.out.carry hX6)
  replace hY := hideit (Ext.trans hY.out (hX6))
  replace hO := hideit (show OwnB w.heap.size 5 v6 512 (yv (opF D n g)) y6 from hO.down hb.out)
  clear hX6 hb
  refine xm [some (v6), some (.int .i64 0), some (v6), some (.int .i64 0)] (by kernel_rfl) (by simp [xr, go_sem]) ?_
  simp only [xw, p0, p1, p2, p3]
  go_wp2
  refine bodyPost_ret (res2 rfl _ _ _) rfl ?_
  exact ⟨_, rfl, hO.out, Ext.trans hE.out hY.out⟩
set_option maxRecDepth 20000 in
set_option maxHeartbeats 4000000 in
theorem open_no (e n : Nat) (D T R : Nat → BitVec 8) (v : Value) (g : Nat → BitVec 8) (w : World) (hV : BV v 512 g w) (hC : TabC w) (he1 : 1 ≤ e) (he : e < 4294967296) (hn : n < 1024) (hR : ¬ ∀ j, j < 64 → R j = rcF e n T g 512 j) : Calls Tryd.prog 21 #[.agg (row 65 (ekV e D T)).toArray, .int .i64 (n : Int), v, .agg (row 64 (yv R)).toArray] w fun e' w' => e' = .returned (.tuple #[.slice none 0 0, .int .i64 160]) ∧ Ext w w' := by
  have hr : false = true ↔ 64 = 64 ∧ ∀ j, j < 64 → R j = rcF e n T g 512 j := ⟨fun q => Bool.noConfusion q, fun q => (hR q.2).elim⟩
  obtain ⟨vo, vc, rfl⟩ := hV.form
  have hE := hideit (Ext.refl w)
  go_enter Tryd.func21, Tryd.ntmps21
  go_upto_region 0 with (fail)
  refine wp_region_lit ?_
  have A0 := hideit (RowAt.new w 65 (ekV e D T) 50)
  have XB : Ext w (w.alloc (.cells (row 65 (ekV e D T)).toArray 50)) := (Below.refl _ _).alloc (Nat.le_refl _) _
  have AE := hideit (Ext.trans hE.out (XB))
  have AB := hideit (hE.out.size)
  clear XB
  refine wpList_to rfl (.pointer (some ⟨w.heap.size, 0, none⟩)) (w.alloc (.cells (row 65 (ekV e D T)).toArray 50)) (by simp [go_sem]) ?_
  simp only [zp0, zp1, zp2, zp3]
  generalize w.alloc (.cells (row 65 (ekV e D T)).toArray 50) = x1 at A0 AE ⊢
  obtain ⟨c4, ec4⟩ : ∃ b, b = w.heap.size := ⟨_, rfl⟩
  have ABc4 : Hid (w.heap.size ≤ c4) := by rw [ec4]; exact AB.out
  clear AB
  rw [← ec4] at A0  ⊢
  clear ec4
  have Hc4 := A0
  clear A0
  replace hE := AE
  clear AE
  have A0 := hideit (RowAt.new x1 64 (yv R) 23)
  have XB : Ext x1 (x1.alloc (.cells (row 64 (yv R)).toArray 23)) := (Below.refl _ _).alloc (Nat.le_refl _) _
  have A1 := hideit (Hc4.out.carry XB)
  have AE := hideit (Ext.trans hE.out (XB))
  have AB := hideit (hE.out.size)
  have D0 : Hid (c4 ≠ x1.heap.size) := Nat.ne_of_lt Hc4.out.2.2
  clear XB
  refine wpList_to rfl (.pointer (some ⟨x1.heap.size, 0, none⟩)) (x1.alloc (.cells (row 64 (yv R)).toArray 23)) (by simp [go_sem]) ?_
  simp only [zp0, zp1, zp2, zp3]
  generalize x1.alloc (.cells (row 64 (yv R)).toArray 23) = x2 at A0 A1 AE ⊢
  obtain ⟨c7, ec7⟩ : ∃ b, b = x1.heap.size := ⟨_, rfl⟩
  have ABc7 : Hid (w.heap.size ≤ c7) := by rw [ec7]; exact AB.out
  clear AB
  rw [← ec7] at A0 D0 ⊢
  clear ec7
  have Hc7 := A0
  clear A0
  replace Hc4 := A1
  clear A1
  replace hE := AE
  clear AE
  have Dc7_0 := D0
  clear D0
  refine xm [some (.slice none 0 0), some (.int .i64 0)] (by kernel_rfl) (by simp [xr, go_sem]) ?_
  simp only [xw, p0, p1, p2, p3]
  go_upto_region 1 with (fail)
  refine wp_region_lit ?_
  refine wpList_run rfl (.agg (row 65 (ekV e D T)).toArray) (xload 50 (.tmp 4) rfl c4 0 65 _ rfl Hc4.out.range Tryd.underlying50 rfl inf50) ?_
  simp only [zp0, zp1, zp2, zp3]
  refine xm [some (.int .i64 (n : Int)), some (.slice vo 512 vc)] (by kernel_rfl) (by simp [xr, go_sem]) ?_
  simp only [xw, p0, p1, p2, p3]
  refine wpList_call rfl (by simp [go_sem]) ((cip_ok e n D T vo vc x2 he1 he hn).mono ?_)
  rintro e y1 ⟨q, c1, c2, rfl, hP, hX1⟩
  refine ⟨_, rfl, ?_⟩
  simp only [zp0, zp1, zp2, zp3]
  replace Hc4 := hideit (Hc4.out.carry hX1)
  replace Hc7 := hideit (Hc7.out.carry hX1)
  replace hE := hideit (Ext.trans hE.out (hX1))
  replace hP := hideit hP
  have hY := hideit (Ext.refl y1)
  clear hX1
  refine xm [some (.tuple #[.pointer (some ⟨q, 0, none⟩), .int .i64 0]), some (.pointer (some ⟨q, 0, none⟩)), some (.int .i64 0), some (.pointer (some ⟨q, 0, none⟩)), some (.int .i64 0)] (by kernel_rfl) (by simp [xr, go_sem]) ?_
  simp only [xw, p0, p1, p2, p3]
  go_upto_region 2 with (fail)
  refine wp_region_lit ?_
  refine xm [some (.int .i64 0), some (.bool false)] (by kernel_rfl) (by simp [xr, go_sem]) ?_
  simp only [xw, p0, p1, p2, p3]
  go_upto_region 4 with (fail)
  refine wp_region_lit ?_
  refine wpList_run rfl (.agg (row 65 (ekV e D T)).toArray) (xload 50 (.tmp 4) rfl c4 0 65 _ rfl Hc4.out.range Tryd.underlying50 rfl inf50) ?_
  simp only [zp0, zp1, zp2, zp3]
  refine xm [some (.int .i64 (n : Int)), some (.slice vo 512 vc)] (by kernel_rfl) (by simp [xr, go_sem]) ?_
  simp only [xw, p0, p1, p2, p3]
  refine wpList_call rfl (by simp [go_sem]) ((rof_any e n D T (.slice vo 512 vc) 512 g y1 (hV.ext (Ext.trans hE.out hY.out)) (hC.ext (Ext.trans hE.out hY.out)) he (by omega) sum512).mono ?_)
  rintro e y3 ⟨rfl, hX3⟩
  refine ⟨_, rfl, ?_⟩
  simp only [zp0, zp1, zp2, zp3]
  replace Hc4 := hideit (Hc4.out.carry hX3)
  replace Hc7 := hideit (Hc7.out.carry hX3)
  replace hY := hideit (Ext.trans hY.out (hX3))
  clear hX3
  have A0 := hideit (RowAt.new y3 64 (yv fun _ => 0#8) 23)
  have A1 := hideit (Hc4.out.alloc (.cells (row 64 (yv fun _ => 0#8)).toArray 23))
  have A2 := hideit (Hc7.out.alloc (.cells (row 64 (yv fun _ => 0#8)).toArray 23))
  have AE := hideit (Below.alloc hY.out (Below.size hY.out) (.cells (row 64 (yv fun _ => 0#8)).toArray 23))
  have AB := hideit (Below.size hY.out)
  have D0 : Hid (c4 ≠ y3.heap.size) := Nat.ne_of_lt Hc4.out.2.2
  have D1 : Hid (c7 ≠ y3.heap.size) := Nat.ne_of_lt Hc7.out.2.2
  refine wpList_to rfl (.pointer (some ⟨y3.heap.size, 0, none⟩)) (y3.alloc (.cells (row 64 (yv fun _ => 0#8)).toArray 23)) (xalloc 23 (row 64 (yv fun _ => 0#8)).toArray rfl (zero23 y3)) ?_
  simp only [zp0, zp1, zp2, zp3]
  generalize y3.alloc (.cells (row 64 (yv fun _ => 0#8)).toArray 23) = x4 at A0 A1 A2 AE ⊢
  obtain ⟨z3, ez3⟩ : ∃ b, b = y3.heap.size := ⟨_, rfl⟩
  rw [← ez3] at A0 D0 D1 AB ⊢
  clear ez3
  have Hz3 := A0
  clear A0
  replace Hc4 := A1
  clear A1
  replace Hc7 := A2
  clear A2
  replace hY := AE
  clear AE
  have ABz3 := AB
  clear AB
  have Dz3_0 := D0
  clear D0
  have Dz3_1 := D1
  clear D1
  have N0 := hideit (Hz3.out.cells (g' := yv (rcF e n T g 512)))
  have N1 := hideit (Hc4.out.cellsOther (Ne.symm (Dz3_0.out)) (row 64 (yv (rcF e n T g 512))) 0)
  have N2 := hideit (Hc7.out.cellsOther (Ne.symm (Dz3_1.out)) (row 64 (yv (rcF e n T g 512))) 0)
  have NE := hideit (below_setCells z3 (ABz3.out) (row 64 (yv (rcF e n T g 512))) 0 _ hY.out)
  refine xst rfl (x4.setCells z3 0 (row 64 (yv (rcF e n T g 512)))) (xstore 23 (.tmp 12) (.tmp 26) rfl z3 64 _ (yv (rcF e n T g 512)) rfl rfl Hz3.out inf23 (fun j _ => rfl)) ?_
  simp only [Act.put]
  generalize x4.setCells z3 0 (row 64 (yv (rcF e n T g 512))) = x5 at N0 N1 N2 NE ⊢
  replace Hz3 := N0
  replace Hc4 := N1
  replace Hc7 := N2
  replace hY := NE
  clear N0 N1 N2 NE
  go_upto_region 5 with (fail)
  replace Hc4 := hideit Hc4.out.drew
  replace Hc7 := hideit Hc7.out.drew
  replace Hz3 := hideit Hz3.out.drew
  replace hY := hideit (Ext.draw hY.out)
  refine wp_region_ladz (fun X => Ext x5.drew X) [2] [(false, 0), (false, 1), (true, 2), (false, 3)] (by kernel_rfl) (by kernel_rfl) (by decide +kernel) (by decide +kernel) (by decide +kernel) (by decide +kernel) (Ext.refl _) ?_
  refine wpZ_f _ (.slice (some ⟨c7, 0, none⟩) 64 64) rfl rfl (fun X _ => by simp [go_sem]) ?_
  simp only [List.getElem_toArray, List.getElem_cons_zero, Act.put, List.setIfInBounds_toArray, List.set_cons_zero, List.set_cons_succ]
  refine wpZ_f _ (.slice (some ⟨z3, 0, none⟩) 64 64) rfl rfl (fun X _ => by simp [go_sem]) ?_
  simp only [zp4, zp5, zp6, zp0, zp1, zp2, zp3]
  refine wpZ_call _ rfl rfl (by simp [go_sem]) ((equal_any (.slice (some ⟨c7, 0, none⟩) 64 64) (.slice (some ⟨z3, 0, none⟩) 64 64) 64 64 R (rcF e n T g 512) x5.drew (.inr ⟨⟨c7, 0, none⟩, 64, rfl, Nat.le_refl _, RowAt.lie Hc7.out 64 (Nat.le_refl _)⟩) (.inr ⟨⟨z3, 0, none⟩, 64, rfl, Nat.le_refl _, RowAt.lie Hz3.out 64 (Nat.le_refl _)⟩) (by decide) (by decide) false hr).mono ?_)
  rintro e _ ⟨rfl, rfl⟩
  refine ⟨_, rfl, fun X => Ext x5.drew X, .inr (fun X hX => hX), Ext.refl _, ?_⟩
  simp only [zp4, zp5, zp6, zp0, zp1, zp2, zp3]
  refine wpZ_f _ (.bool true) rfl rfl (fun X _ => by simp [go_sem]) ?_
  simp only [zp4, zp5, zp6, zp0, zp1, zp2, zp3]
  refine wpZ_nil ?_
  go_upto_region 6 with (fail)
  refine wp_region_lit ?_
  refine xm [some (.slice none 0 0), some (.int .i64 160)] (by kernel_rfl) (by simp [xr, go_sem]) ?_
  simp only [xw, p0, p1, p2, p3]
  go_wp2
  refine bodyPost_ret (res2 rfl _ _ _) rfl ?_
  exact ⟨rfl, Ext.trans hE.out hY.out⟩
end Go.Proofs.YtgjabfjkokpkiaaDoor
