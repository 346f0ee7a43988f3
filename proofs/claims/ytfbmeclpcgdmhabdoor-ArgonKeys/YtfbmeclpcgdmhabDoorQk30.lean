/-
  The other page. The other page; pages of addresses.
-/
import Derived.Test.YtfbmeclpcgdmhabDoorQk1
import Derived.Test.YtfbmeclpcgdmhabDoorQk29
namespace Go.Proofs.YtfbmeclpcgdmhabDoor
open Go.RowKit Go.BigFrame
set_option linter.unusedVariables false
set_option maxRecDepth 20000 in
set_option maxHeartbeats 4000000 in
theorem oth_zero (B p T M L s lb lc:Nat) (bk:Nat → Nat) (Mw:Nat → BitVec 64) (ps sl ln k v r fs cn y wh sm ix:Nat) (x:BitVec 64) (w:World) (hM:Mm B p T M L s lb lc bk Mw w) (hs:2 ≤ s ∧ s ≤ 64) (hsl:sl < 4) (hk:k ≤ 64) (hl:Hid (ln < L)) (hc:1 ≤ cnA s ps sl ln k ln) (a1:ps = 0) (a2:sl = 0) (f1:Hid ((x.toNat:Int) / 4294967296 = (v:Int))) (f2:Hid (IntKind.u64.wrap (L:Int) = (L:Int))) (f3:Hid (¬ L = 0 ∧ (v:Int).tmod (L:Int) = (r:Int))) (f4:Hid (IntKind.i64.wrap (r:Int) = (r:Int)))
    (hfs:Hid (fsA s ps sl = fs)) (hcn:Hid (cnA s ps sl ln k ln = cn)) (f5:Hid (IntKind.u32.wrap (x.toNat:Int) = (y:Int))) (g1:1 ≤ (cn:Int)) (g2:(cn:Int) ≤ 2147483647) (g3:(y:Int) ≤ 4294967295) (hwh:Hid (whI (cn:Int) (y:Int) = (wh:Int))) (f6:Hid (IntKind.i64.wrap ((fs:Int) + (wh:Int)) = (sm:Int))) (f7:Hid (¬ s = 0 ∧ (sm:Int).tmod (4 * (s:Int)) = (ix:Int))) (f8:Hid ((ix:Int) < 4 * (s:Int))) (hix:Hid (ix < 4 * s)):
    Calls Tryd.prog 53 #[.pointer (some ⟨p,0,none⟩),.agg (row 3 (tuV ps sl ln)).toArray,.int .i64 (k:Int),.int .u64 (x.toNat:Int)] w fun e w'=>e = .returned (.agg (row 128 (wv (pgA Mw (4 * s * ln + ix)))).toArray) ∧ Ext w w':=by
  replace a1:=hideit a1
  replace a2:=hideit a2
  have hE:=hideit (Ext.refl w)
  replace hM:=hideit hM
  go_enter Tryd.func53,Tryd.ntmps53
  go_upto_region 0 with (fail)
  refine wp_region_lit ?_
  have A0:=hideit (RowAt.new w 3 (tuV ps sl ln) 58)
  have XB:Ext w (w.alloc (.cells (row 3 (tuV ps sl ln)).toArray 58)):=(Below.refl _ _).alloc (Nat.le_refl _) _
  have L0:=hideit (hM.out.ext XB)
  have AE:=hideit (Below.alloc hE.out (Below.size hE.out) (.cells (row 3 (tuV ps sl ln)).toArray 58))
  have AB:=hideit (Below.size hE.out)
  clear XB
  refine wpList_to rfl (.pointer (some ⟨w.heap.size,0,none⟩)) (w.alloc (.cells (row 3 (tuV ps sl ln)).toArray 58)) (by simp [go_sem]) ?_
  simp only [jk,jq,jv,jy]
  generalize w.alloc (.cells (row 3 (tuV ps sl ln)).toArray 58) = x2 at A0 L0 AE ⊢
  obtain ⟨z1,ez1⟩:∃ b,b = w.heap.size:=⟨_,rfl⟩
  rw [← ez1] at A0  AB ⊢
  clear ez1
  have Hz1:=A0
  clear A0
  replace hM:=L0
  clear L0
  replace hE:=AE
  clear AE
  have ABz1:=AB
  clear AB
  have A0:=hideit (RowAt.new x2 128 (wv fun _=>0#64) 24)
  have XB:Ext x2 (x2.alloc (.cells (row 128 (wv fun _=>0#64)).toArray 24)):=(Below.refl _ _).alloc (Nat.le_refl _) _
  have A1:=hideit (Hz1.out.alloc (.cells (row 128 (wv fun _=>0#64)).toArray 24))
  have L0:=hideit (hM.out.ext XB)
  have AE:=hideit (Below.alloc hE.out (Below.size hE.out) (.cells (row 128 (wv fun _=>0#64)).toArray 24))
  have AB:=hideit (Below.size hE.out)
  have D0:Hid (z1 ≠ x2.heap.size):=Nat.ne_of_lt Hz1.out.2.2
  clear XB
  refine wpList_to rfl (.pointer (some ⟨x2.heap.size,0,none⟩)) (x2.alloc (.cells (row 128 (wv fun _=>0#64)).toArray 24)) (xalloc 24 _ rfl (zero31p _)) ?_
  simp only [jk,jq,jv,jy]
  generalize x2.alloc (.cells (row 128 (wv fun _=>0#64)).toArray 24) = x4 at A0 A1 L0 AE ⊢
  obtain ⟨z3,ez3⟩:∃ b,b = x2.heap.size:=⟨_,rfl⟩
  rw [← ez3] at A0 D0 AB ⊢
  clear ez3
  have Hz3:=A0
  clear A0
  replace Hz1:=A1
  clear A1
  replace hM:=L0
  clear L0
  replace hE:=AE
  clear AE
  have ABz3:=AB
  clear AB
  have Dz3_0:=D0
  clear D0
  have HP:=hideit hM.out.rc
  have HL:=hideit hM.out.ln
  go_upto_region 1 with (fail)
  refine wp_region_lit ?_
  have m5:x4.cell? ⟨p,4,none⟩ = some (.slice (some ⟨lb,0,none⟩) L lc):=HP.out.1 4 (by decide)
  refine xm [some (.int .u64 (x.toNat:Int)),some (.int .u64 (v:Int)),some (.pointer (some ⟨p,0,none⟩)),some (.pointer (some ⟨p,0,none⟩)),some (.pointer (some ⟨p,4,none⟩)),some (.slice (some ⟨lb,0,none⟩) L lc),some (.int .i64 (L:Int)),some (.int .u64 (L:Int)),some (.int .u64 (r:Int)),some (.int .i64 (r:Int)),some (.int .i64 (r:Int))] (by kernel_rfl) (by simp [xr,go_sem,f1.out,m5,f2.out,f3.out.1,f3.out.2,f4.out]) ?_
  simp only [xw,p0,p1,p2,p3]
  clear m5
  go_upto_region 2 with (fail)
  refine wp_region_lit ?_
  have m6:x4.cell? ⟨z1,0,none⟩ = some (.int .i64 (ps:Int)):=Hz1.out.1 0 (by decide)
  have m7:x4.cell? ⟨z1,1,none⟩ = some (.int .i64 (sl:Int)):=Hz1.out.1 1 (by decide)
  refine xm [some (.pointer (some ⟨z1,0,none⟩)),some (.int .i64 (ps:Int)),some (.bool true),some (.bool true),some (.pointer (some ⟨z1,1,none⟩)),some (.int .i64 (sl:Int)),some (.bool true),some (.bool true)] (by kernel_rfl) (by simp [xr,go_sem,m6,a1.out,m7,a2.out]) ?_
  simp only [xw,p0,p1,p2,p3]
  clear m6
  clear m7
  go_upto_region 3 with (fail)
  refine wp_region_lit ?_
  have m8:x4.cell? ⟨z1,2,none⟩ = some (.int .i64 (ln:Int)):=Hz1.out.1 2 (by decide)
  refine xm [some (.pointer (some ⟨z1,2,none⟩)),some (.int .i64 (ln:Int)),some (.int .i64 (ln:Int))] (by kernel_rfl) (by simp [xr,go_sem,m8]) ?_
  simp only [xw,p0,p1,p2,p3]
  clear m8
  go_upto_region 4 with (fail)
  refine wp_region_lit ?_
  refine xm [some (.pointer (some ⟨p,0,none⟩))] (by kernel_rfl) (by simp [xr,go_sem]) ?_
  simp only [xw,p0,p1,p2,p3]
  refine wpList_run rfl (.agg (row 3 (tuV ps sl ln)).toArray) (xload 58 (.tmp 5) rfl z1 0 3 _ rfl Hz1.out.range Tryd.underlying58 rfl infoTu) ?_
  simp only [jk,jq,jv,jy]
  refine xm [some (.int .i64 (k:Int)),some (.int .i64 (ln:Int))] (by kernel_rfl) (by simp [xr,go_sem]) ?_
  simp only [xw,p0,p1,p2,p3]
  refine wpList_call rfl (by simp [go_sem]) ((win_any B p T M L s lb lc bk Mw ps sl ln k ln x4 hM.out hs hsl hk hc).mono ?_)
  rintro e y9 ⟨rfl,hX10⟩
  refine ⟨_,rfl,?_⟩
  simp only [jk,jq,jv,jy]
  replace Hz1:=hideit (Hz1.out.carry hX10)
  replace Hz3:=hideit (Hz3.out.carry hX10)
  replace HP:=hideit (HP.out.carry hX10)
  replace hM:=hideit (hM.out.ext hX10)
  replace hE:=hideit (Ext.trans hE.out hX10)
  rw [hfs.out,hcn.out]
  clear hX10
  refine xm [some (.tuple #[.int .i64 (fs:Int),.int .i64 (cn:Int)]),some (.int .i64 (fs:Int)),some (.int .i64 (cn:Int)),some (.int .i64 (fs:Int)),some (.int .i64 (cn:Int))] (by kernel_rfl) (by simp [xr,go_sem]) ?_
  simp only [xw,p0,p1,p2,p3]
  have cl:y9.cell? ⟨lb,ln,none⟩ = some (.slice (some ⟨bk ln,0,none⟩) (4 * s) (4 * s)):=hM.out.ln.1 ln hl.out
  have hl2:(ln:Int) < (L:Int):=by have:=hl.out; omega
  go_upto_region 5 with (fail)
  refine wp_region_lit ?_
  have m11:y9.cell? ⟨p,4,none⟩ = some (.slice (some ⟨lb,0,none⟩) L lc):=HP.out.1 4 (by decide)
  refine xm [some (.pointer (some ⟨p,0,none⟩)),some (.pointer (some ⟨p,0,none⟩)),some (.pointer (some ⟨p,4,none⟩)),some (.slice (some ⟨lb,0,none⟩) L lc),some (.int .i64 (ln:Int)),some (.pointer (some ⟨lb,ln,none⟩)),some (.slice (some ⟨bk ln,0,none⟩) (4 * s) (4 * s)),some (.slice (some ⟨bk ln,0,none⟩) (4 * s) (4 * s))] (by kernel_rfl) (by simp [xr,go_sem,m11,hl2,add00,cl]) ?_
  simp only [xw,p0,p1,p2,p3]
  clear m11
  clear cl hl2 HP HL
  go_upto_region 6 with (fail)
  refine wp_region_lit ?_
  refine xm [some (.slice (some ⟨bk ln,0,none⟩) (4 * s) (4 * s)),some (.int .i64 (fs:Int)),some (.int .i64 (cn:Int)),some (.int .u64 (x.toNat:Int)),some (.int .u32 (y:Int))] (by kernel_rfl) (by simp [xr,go_sem,f5.out]) ?_
  simp only [xw,p0,p1,p2,p3]
  refine wpList_call rfl (by simp [go_sem]) ((which_any (cn:Int) (y:Int) g1 g2 (by omega) g3 y9).mono ?_)
  rintro e e9 ⟨rfl,hw9⟩
  refine ⟨_,rfl,?_⟩
  simp only [jk,jq,jv,jy]
  subst hw9
  rw [hwh.out]
  refine xm [some (.int .i64 (sm:Int)),some (.slice (some ⟨bk ln,0,none⟩) (4 * s) (4 * s)),some (.int .i64 (4 * (s:Int))),some (.int .i64 (ix:Int)),some (.pointer (some ⟨bk ln,ix * 128,none⟩))] (by kernel_rfl) (by simp [xr,go_sem,f6.out,f7.out.1,f7.out.2,f8.out,add00]) ?_
  simp only [xw,p0,p1,p2,p3]
  refine wpList_run rfl (.agg (row 128 (wv (pgA Mw (4 * s * ln + ix)))).toArray) (xload 24 (.tmp 58) rfl (bk ln) (ix * 128) 128 _ rfl (hM.out.range ln hl.out ix hix.out) Tryd.underlying24 rfl infoPg) ?_
  simp only [jk,jq,jv,jy]
  have N0:=hideit (Hz3.out.cells (g':=wv (pgA Mw (4 * s * ln + ix))))
  have N1:=hideit (Hz1.out.cellsOther (Ne.symm (Dz3_0.out)) (row 128 (wv (pgA Mw (4 * s * ln + ix)))) 0)
  have NE:=hideit (below_setCells z3 (ABz3.out) (row 128 (wv (pgA Mw (4 * s * ln + ix)))) 0 _ hE.out)
  refine xst rfl (e9.setCells z3 0 (row 128 (wv (pgA Mw (4 * s * ln + ix))))) (xstore 24 (.tmp 8) (.tmp 59) rfl z3 128 _ (wv (pgA Mw (4 * s * ln + ix))) rfl rfl Hz3.out infoPg (fun _ _=>rfl)) ?_
  simp only [Act.put]
  generalize e9.setCells z3 0 (row 128 (wv (pgA Mw (4 * s * ln + ix)))) = x12 at N0 N1 NE ⊢
  replace Hz3:=N0
  replace Hz1:=N1
  replace hE:=NE
  clear N0 N1 NE
  go_wp2
  exact bodyPost_ret (ret_row Tryd.results53 rfl Hz3.out Tryd.underlying24 rfl infoPg) rfl ⟨rfl,hE.out⟩
set_option maxRecDepth 20000 in
set_option maxHeartbeats 4000000 in
theorem oth_sl (B p T M L s lb lc:Nat) (bk:Nat → Nat) (Mw:Nat → BitVec 64) (ps sl ln k v r fs cn y wh sm ix:Nat) (x:BitVec 64) (w:World) (hM:Mm B p T M L s lb lc bk Mw w) (hs:2 ≤ s ∧ s ≤ 64) (hsl:sl < 4) (hk:k ≤ 64) (hl:Hid (r < L)) (hc:1 ≤ cnA s ps sl ln k r) (a1:ps = 0) (a2:¬ sl = 0) (f1:Hid ((x.toNat:Int) / 4294967296 = (v:Int))) (f2:Hid (IntKind.u64.wrap (L:Int) = (L:Int))) (f3:Hid (¬ L = 0 ∧ (v:Int).tmod (L:Int) = (r:Int))) (f4:Hid (IntKind.i64.wrap (r:Int) = (r:Int)))
    (hfs:Hid (fsA s ps sl = fs)) (hcn:Hid (cnA s ps sl ln k r = cn)) (f5:Hid (IntKind.u32.wrap (x.toNat:Int) = (y:Int))) (g1:1 ≤ (cn:Int)) (g2:(cn:Int) ≤ 2147483647) (g3:(y:Int) ≤ 4294967295) (hwh:Hid (whI (cn:Int) (y:Int) = (wh:Int))) (f6:Hid (IntKind.i64.wrap ((fs:Int) + (wh:Int)) = (sm:Int))) (f7:Hid (¬ s = 0 ∧ (sm:Int).tmod (4 * (s:Int)) = (ix:Int))) (f8:Hid ((ix:Int) < 4 * (s:Int))) (hix:Hid (ix < 4 * s)):
    Calls Tryd.prog 53 #[.pointer (some ⟨p,0,none⟩),.agg (row 3 (tuV ps sl ln)).toArray,.int .i64 (k:Int),.int .u64 (x.toNat:Int)] w fun e w'=>e = .returned (.agg (row 128 (wv (pgA Mw (4 * s * r + ix)))).toArray) ∧ Ext w w':=by
  replace a1:=hideit a1
  replace a2:=hideit a2
  have hE:=hideit (Ext.refl w)
  replace hM:=hideit hM
  go_enter Tryd.func53,Tryd.ntmps53
  go_upto_region 0 with (fail)
  refine wp_region_lit ?_
  have A0:=hideit (RowAt.new w 3 (tuV ps sl ln) 58)
  have XB:Ext w (w.alloc (.cells (row 3 (tuV ps sl ln)).toArray 58)):=(Below.refl _ _).alloc (Nat.le_refl _) _
  have L0:=hideit (hM.out.ext XB)
  have AE:=hideit (Below.alloc hE.out (Below.size hE.out) (.cells (row 3 (tuV ps sl ln)).toArray 58))
  have AB:=hideit (Below.size hE.out)
  clear XB
  refine wpList_to rfl (.pointer (some ⟨w.heap.size,0,none⟩)) (w.alloc (.cells (row 3 (tuV ps sl ln)).toArray 58)) (by simp [go_sem]) ?_
  simp only [jk,jq,jv,jy]
  generalize w.alloc (.cells (row 3 (tuV ps sl ln)).toArray 58) = x2 at A0 L0 AE ⊢
  obtain ⟨z1,ez1⟩:∃ b,b = w.heap.size:=⟨_,rfl⟩
  rw [← ez1] at A0  AB ⊢
  clear ez1
  have Hz1:=A0
  clear A0
  replace hM:=L0
  clear L0
  replace hE:=AE
  clear AE
  have ABz1:=AB
  clear AB
  have A0:=hideit (RowAt.new x2 128 (wv fun _=>0#64) 24)
  have XB:Ext x2 (x2.alloc (.cells (row 128 (wv fun _=>0#64)).toArray 24)):=(Below.refl _ _).alloc (Nat.le_refl _) _
  have A1:=hideit (Hz1.out.alloc (.cells (row 128 (wv fun _=>0#64)).toArray 24))
  have L0:=hideit (hM.out.ext XB)
  have AE:=hideit (Below.alloc hE.out (Below.size hE.out) (.cells (row 128 (wv fun _=>0#64)).toArray 24))
  have AB:=hideit (Below.size hE.out)
  have D0:Hid (z1 ≠ x2.heap.size):=Nat.ne_of_lt Hz1.out.2.2
  clear XB
  refine wpList_to rfl (.pointer (some ⟨x2.heap.size,0,none⟩)) (x2.alloc (.cells (row 128 (wv fun _=>0#64)).toArray 24)) (xalloc 24 _ rfl (zero31p _)) ?_
  simp only [jk,jq,jv,jy]
  generalize x2.alloc (.cells (row 128 (wv fun _=>0#64)).toArray 24) = x4 at A0 A1 L0 AE ⊢
  obtain ⟨z3,ez3⟩:∃ b,b = x2.heap.size:=⟨_,rfl⟩
  rw [← ez3] at A0 D0 AB ⊢
  clear ez3
  have Hz3:=A0
  clear A0
  replace Hz1:=A1
  clear A1
  replace hM:=L0
  clear L0
  replace hE:=AE
  clear AE
  have ABz3:=AB
  clear AB
  have Dz3_0:=D0
  clear D0
  have HP:=hideit hM.out.rc
  have HL:=hideit hM.out.ln
  go_upto_region 1 with (fail)
  refine wp_region_lit ?_
  have m5:x4.cell? ⟨p,4,none⟩ = some (.slice (some ⟨lb,0,none⟩) L lc):=HP.out.1 4 (by decide)
  refine xm [some (.int .u64 (x.toNat:Int)),some (.int .u64 (v:Int)),some (.pointer (some ⟨p,0,none⟩)),some (.pointer (some ⟨p,0,none⟩)),some (.pointer (some ⟨p,4,none⟩)),some (.slice (some ⟨lb,0,none⟩) L lc),some (.int .i64 (L:Int)),some (.int .u64 (L:Int)),some (.int .u64 (r:Int)),some (.int .i64 (r:Int)),some (.int .i64 (r:Int))] (by kernel_rfl) (by simp [xr,go_sem,f1.out,m5,f2.out,f3.out.1,f3.out.2,f4.out]) ?_
  simp only [xw,p0,p1,p2,p3]
  clear m5
  go_upto_region 2 with (fail)
  refine wp_region_lit ?_
  have m6:x4.cell? ⟨z1,0,none⟩ = some (.int .i64 (ps:Int)):=Hz1.out.1 0 (by decide)
  have m7:x4.cell? ⟨z1,1,none⟩ = some (.int .i64 (sl:Int)):=Hz1.out.1 1 (by decide)
  refine xm [some (.pointer (some ⟨z1,0,none⟩)),some (.int .i64 (ps:Int)),some (.bool true),some (.bool true),some (.pointer (some ⟨z1,1,none⟩)),some (.int .i64 (sl:Int)),some (.bool false),some (.bool false)] (by kernel_rfl) (by simp [xr,go_sem,m6,a1.out,m7,a2.out]) ?_
  simp only [xw,p0,p1,p2,p3]
  clear m6
  clear m7
  go_upto_region 4 with (fail)
  refine wp_region_lit ?_
  refine xm [some (.pointer (some ⟨p,0,none⟩))] (by kernel_rfl) (by simp [xr,go_sem]) ?_
  simp only [xw,p0,p1,p2,p3]
  refine wpList_run rfl (.agg (row 3 (tuV ps sl ln)).toArray) (xload 58 (.tmp 5) rfl z1 0 3 _ rfl Hz1.out.range Tryd.underlying58 rfl infoTu) ?_
  simp only [jk,jq,jv,jy]
  refine xm [some (.int .i64 (k:Int)),some (.int .i64 (r:Int))] (by kernel_rfl) (by simp [xr,go_sem]) ?_
  simp only [xw,p0,p1,p2,p3]
  refine wpList_call rfl (by simp [go_sem]) ((win_any B p T M L s lb lc bk Mw ps sl ln k r x4 hM.out hs hsl hk hc).mono ?_)
  rintro e y8 ⟨rfl,hX9⟩
  refine ⟨_,rfl,?_⟩
  simp only [jk,jq,jv,jy]
  replace Hz1:=hideit (Hz1.out.carry hX9)
  replace Hz3:=hideit (Hz3.out.carry hX9)
  replace HP:=hideit (HP.out.carry hX9)
  replace hM:=hideit (hM.out.ext hX9)
  replace hE:=hideit (Ext.trans hE.out hX9)
  rw [hfs.out,hcn.out]
  clear hX9
  refine xm [some (.tuple #[.int .i64 (fs:Int),.int .i64 (cn:Int)]),some (.int .i64 (fs:Int)),some (.int .i64 (cn:Int)),some (.int .i64 (fs:Int)),some (.int .i64 (cn:Int))] (by kernel_rfl) (by simp [xr,go_sem]) ?_
  simp only [xw,p0,p1,p2,p3]
  have cl:y8.cell? ⟨lb,r,none⟩ = some (.slice (some ⟨bk r,0,none⟩) (4 * s) (4 * s)):=hM.out.ln.1 r hl.out
  have hl2:(r:Int) < (L:Int):=by have:=hl.out; omega
  go_upto_region 5 with (fail)
  refine wp_region_lit ?_
  have m10:y8.cell? ⟨p,4,none⟩ = some (.slice (some ⟨lb,0,none⟩) L lc):=HP.out.1 4 (by decide)
  refine xm [some (.pointer (some ⟨p,0,none⟩)),some (.pointer (some ⟨p,0,none⟩)),some (.pointer (some ⟨p,4,none⟩)),some (.slice (some ⟨lb,0,none⟩) L lc),some (.int .i64 (r:Int)),some (.pointer (some ⟨lb,r,none⟩)),some (.slice (some ⟨bk r,0,none⟩) (4 * s) (4 * s)),some (.slice (some ⟨bk r,0,none⟩) (4 * s) (4 * s))] (by kernel_rfl) (by simp [xr,go_sem,m10,hl2,add00,cl]) ?_
  simp only [xw,p0,p1,p2,p3]
  clear m10
  clear cl hl2 HP HL
  go_upto_region 6 with (fail)
  refine wp_region_lit ?_
  refine xm [some (.slice (some ⟨bk r,0,none⟩) (4 * s) (4 * s)),some (.int .i64 (fs:Int)),some (.int .i64 (cn:Int)),some (.int .u64 (x.toNat:Int)),some (.int .u32 (y:Int))] (by kernel_rfl) (by simp [xr,go_sem,f5.out]) ?_
  simp only [xw,p0,p1,p2,p3]
  refine wpList_call rfl (by simp [go_sem]) ((which_any (cn:Int) (y:Int) g1 g2 (by omega) g3 y8).mono ?_)
  rintro e e9 ⟨rfl,hw9⟩
  refine ⟨_,rfl,?_⟩
  simp only [jk,jq,jv,jy]
  subst hw9
  rw [hwh.out]
  refine xm [some (.int .i64 (sm:Int)),some (.slice (some ⟨bk r,0,none⟩) (4 * s) (4 * s)),some (.int .i64 (4 * (s:Int))),some (.int .i64 (ix:Int)),some (.pointer (some ⟨bk r,ix * 128,none⟩))] (by kernel_rfl) (by simp [xr,go_sem,f6.out,f7.out.1,f7.out.2,f8.out,add00]) ?_
  simp only [xw,p0,p1,p2,p3]
  refine wpList_run rfl (.agg (row 128 (wv (pgA Mw (4 * s * r + ix)))).toArray) (xload 24 (.tmp 58) rfl (bk r) (ix * 128) 128 _ rfl (hM.out.range r hl.out ix hix.out) Tryd.underlying24 rfl infoPg) ?_
  simp only [jk,jq,jv,jy]
  have N0:=hideit (Hz3.out.cells (g':=wv (pgA Mw (4 * s * r + ix))))
  have N1:=hideit (Hz1.out.cellsOther (Ne.symm (Dz3_0.out)) (row 128 (wv (pgA Mw (4 * s * r + ix)))) 0)
  have NE:=hideit (below_setCells z3 (ABz3.out) (row 128 (wv (pgA Mw (4 * s * r + ix)))) 0 _ hE.out)
  refine xst rfl (e9.setCells z3 0 (row 128 (wv (pgA Mw (4 * s * r + ix))))) (xstore 24 (.tmp 8) (.tmp 59) rfl z3 128 _ (wv (pgA Mw (4 * s * r + ix))) rfl rfl Hz3.out infoPg (fun _ _=>rfl)) ?_
  simp only [Act.put]
  generalize e9.setCells z3 0 (row 128 (wv (pgA Mw (4 * s * r + ix)))) = x11 at N0 N1 NE ⊢
  replace Hz3:=N0
  replace Hz1:=N1
  replace hE:=NE
  clear N0 N1 NE
  go_wp2
  exact bodyPost_ret (ret_row Tryd.results53 rfl Hz3.out Tryd.underlying24 rfl infoPg) rfl ⟨rfl,hE.out⟩
set_option maxRecDepth 20000 in
set_option maxHeartbeats 4000000 in
theorem oth_ps (B p T M L s lb lc:Nat) (bk:Nat → Nat) (Mw:Nat → BitVec 64) (ps sl ln k v r fs cn y wh sm ix:Nat) (x:BitVec 64) (w:World) (hM:Mm B p T M L s lb lc bk Mw w) (hs:2 ≤ s ∧ s ≤ 64) (hsl:sl < 4) (hk:k ≤ 64) (hl:Hid (r < L)) (hc:1 ≤ cnA s ps sl ln k r) (a1:¬ ps = 0) (f1:Hid ((x.toNat:Int) / 4294967296 = (v:Int))) (f2:Hid (IntKind.u64.wrap (L:Int) = (L:Int))) (f3:Hid (¬ L = 0 ∧ (v:Int).tmod (L:Int) = (r:Int))) (f4:Hid (IntKind.i64.wrap (r:Int) = (r:Int)))
    (hfs:Hid (fsA s ps sl = fs)) (hcn:Hid (cnA s ps sl ln k r = cn)) (f5:Hid (IntKind.u32.wrap (x.toNat:Int) = (y:Int))) (g1:1 ≤ (cn:Int)) (g2:(cn:Int) ≤ 2147483647) (g3:(y:Int) ≤ 4294967295) (hwh:Hid (whI (cn:Int) (y:Int) = (wh:Int))) (f6:Hid (IntKind.i64.wrap ((fs:Int) + (wh:Int)) = (sm:Int))) (f7:Hid (¬ s = 0 ∧ (sm:Int).tmod (4 * (s:Int)) = (ix:Int))) (f8:Hid ((ix:Int) < 4 * (s:Int))) (hix:Hid (ix < 4 * s)):
    Calls Tryd.prog 53 #[.pointer (some ⟨p,0,none⟩),.agg (row 3 (tuV ps sl ln)).toArray,.int .i64 (k:Int),.int .u64 (x.toNat:Int)] w fun e w'=>e = .returned (.agg (row 128 (wv (pgA Mw (4 * s * r + ix)))).toArray) ∧ Ext w w':=by
  replace a1:=hideit a1
  have hE:=hideit (Ext.refl w)
  replace hM:=hideit hM
  go_enter Tryd.func53,Tryd.ntmps53
  go_upto_region 0 with (fail)
  refine wp_region_lit ?_
  have A0:=hideit (RowAt.new w 3 (tuV ps sl ln) 58)
  have XB:Ext w (w.alloc (.cells (row 3 (tuV ps sl ln)).toArray 58)):=(Below.refl _ _).alloc (Nat.le_refl _) _
  have L0:=hideit (hM.out.ext XB)
  have AE:=hideit (Below.alloc hE.out (Below.size hE.out) (.cells (row 3 (tuV ps sl ln)).toArray 58))
  have AB:=hideit (Below.size hE.out)
  clear XB
  refine wpList_to rfl (.pointer (some ⟨w.heap.size,0,none⟩)) (w.alloc (.cells (row 3 (tuV ps sl ln)).toArray 58)) (by simp [go_sem]) ?_
  simp only [jk,jq,jv,jy]
  generalize w.alloc (.cells (row 3 (tuV ps sl ln)).toArray 58) = x2 at A0 L0 AE ⊢
  obtain ⟨z1,ez1⟩:∃ b,b = w.heap.size:=⟨_,rfl⟩
  rw [← ez1] at A0  AB ⊢
  clear ez1
  have Hz1:=A0
  clear A0
  replace hM:=L0
  clear L0
  replace hE:=AE
  clear AE
  have ABz1:=AB
  clear AB
  have A0:=hideit (RowAt.new x2 128 (wv fun _=>0#64) 24)
  have XB:Ext x2 (x2.alloc (.cells (row 128 (wv fun _=>0#64)).toArray 24)):=(Below.refl _ _).alloc (Nat.le_refl _) _
  have A1:=hideit (Hz1.out.alloc (.cells (row 128 (wv fun _=>0#64)).toArray 24))
  have L0:=hideit (hM.out.ext XB)
  have AE:=hideit (Below.alloc hE.out (Below.size hE.out) (.cells (row 128 (wv fun _=>0#64)).toArray 24))
  have AB:=hideit (Below.size hE.out)
  have D0:Hid (z1 ≠ x2.heap.size):=Nat.ne_of_lt Hz1.out.2.2
  clear XB
  refine wpList_to rfl (.pointer (some ⟨x2.heap.size,0,none⟩)) (x2.alloc (.cells (row 128 (wv fun _=>0#64)).toArray 24)) (xalloc 24 _ rfl (zero31p _)) ?_
  simp only [jk,jq,jv,jy]
  generalize x2.alloc (.cells (row 128 (wv fun _=>0#64)).toArray 24) = x4 at A0 A1 L0 AE ⊢
  obtain ⟨z3,ez3⟩:∃ b,b = x2.heap.size:=⟨_,rfl⟩
  rw [← ez3] at A0 D0 AB ⊢
  clear ez3
  have Hz3:=A0
  clear A0
  replace Hz1:=A1
  clear A1
  replace hM:=L0
  clear L0
  replace hE:=AE
  clear AE
  have ABz3:=AB
  clear AB
  have Dz3_0:=D0
  clear D0
  have HP:=hideit hM.out.rc
  have HL:=hideit hM.out.ln
  go_upto_region 1 with (fail)
  refine wp_region_lit ?_
  have m5:x4.cell? ⟨p,4,none⟩ = some (.slice (some ⟨lb,0,none⟩) L lc):=HP.out.1 4 (by decide)
  refine xm [some (.int .u64 (x.toNat:Int)),some (.int .u64 (v:Int)),some (.pointer (some ⟨p,0,none⟩)),some (.pointer (some ⟨p,0,none⟩)),some (.pointer (some ⟨p,4,none⟩)),some (.slice (some ⟨lb,0,none⟩) L lc),some (.int .i64 (L:Int)),some (.int .u64 (L:Int)),some (.int .u64 (r:Int)),some (.int .i64 (r:Int)),some (.int .i64 (r:Int))] (by kernel_rfl) (by simp [xr,go_sem,f1.out,m5,f2.out,f3.out.1,f3.out.2,f4.out]) ?_
  simp only [xw,p0,p1,p2,p3]
  clear m5
  go_upto_region 2 with (fail)
  refine wp_region_lit ?_
  have m6:x4.cell? ⟨z1,0,none⟩ = some (.int .i64 (ps:Int)):=Hz1.out.1 0 (by decide)
  refine xm [some (.pointer (some ⟨z1,0,none⟩)),some (.int .i64 (ps:Int)),some (.bool false),some (.bool false),none,none,none,some (.bool false)] (by kernel_rfl) (by simp [xr,go_sem,m6,a1.out]) ?_
  simp only [xw,p0,p1,p2,p3]
  clear m6
  go_upto_region 4 with (fail)
  refine wp_region_lit ?_
  refine xm [some (.pointer (some ⟨p,0,none⟩))] (by kernel_rfl) (by simp [xr,go_sem]) ?_
  simp only [xw,p0,p1,p2,p3]
  refine wpList_run rfl (.agg (row 3 (tuV ps sl ln)).toArray) (xload 58 (.tmp 5) rfl z1 0 3 _ rfl Hz1.out.range Tryd.underlying58 rfl infoTu) ?_
  simp only [jk,jq,jv,jy]
  refine xm [some (.int .i64 (k:Int)),some (.int .i64 (r:Int))] (by kernel_rfl) (by simp [xr,go_sem]) ?_
  simp only [xw,p0,p1,p2,p3]
  refine wpList_call rfl (by simp [go_sem]) ((win_any B p T M L s lb lc bk Mw ps sl ln k r x4 hM.out hs hsl hk hc).mono ?_)
  rintro e y7 ⟨rfl,hX8⟩
  refine ⟨_,rfl,?_⟩
  simp only [jk,jq,jv,jy]
  replace Hz1:=hideit (Hz1.out.carry hX8)
  replace Hz3:=hideit (Hz3.out.carry hX8)
  replace HP:=hideit (HP.out.carry hX8)
  replace hM:=hideit (hM.out.ext hX8)
  replace hE:=hideit (Ext.trans hE.out hX8)
  rw [hfs.out,hcn.out]
  clear hX8
  refine xm [some (.tuple #[.int .i64 (fs:Int),.int .i64 (cn:Int)]),some (.int .i64 (fs:Int)),some (.int .i64 (cn:Int)),some (.int .i64 (fs:Int)),some (.int .i64 (cn:Int))] (by kernel_rfl) (by simp [xr,go_sem]) ?_
  simp only [xw,p0,p1,p2,p3]
  have cl:y7.cell? ⟨lb,r,none⟩ = some (.slice (some ⟨bk r,0,none⟩) (4 * s) (4 * s)):=hM.out.ln.1 r hl.out
  have hl2:(r:Int) < (L:Int):=by have:=hl.out; omega
  go_upto_region 5 with (fail)
  refine wp_region_lit ?_
  have m9:y7.cell? ⟨p,4,none⟩ = some (.slice (some ⟨lb,0,none⟩) L lc):=HP.out.1 4 (by decide)
  refine xm [some (.pointer (some ⟨p,0,none⟩)),some (.pointer (some ⟨p,0,none⟩)),some (.pointer (some ⟨p,4,none⟩)),some (.slice (some ⟨lb,0,none⟩) L lc),some (.int .i64 (r:Int)),some (.pointer (some ⟨lb,r,none⟩)),some (.slice (some ⟨bk r,0,none⟩) (4 * s) (4 * s)),some (.slice (some ⟨bk r,0,none⟩) (4 * s) (4 * s))] (by kernel_rfl) (by simp [xr,go_sem,m9,hl2,add00,cl]) ?_
  simp only [xw,p0,p1,p2,p3]
  clear m9
  clear cl hl2 HP HL
  go_upto_region 6 with (fail)
  refine wp_region_lit ?_
  refine xm [some (.slice (some ⟨bk r,0,none⟩) (4 * s) (4 * s)),some (.int .i64 (fs:Int)),some (.int .i64 (cn:Int)),some (.int .u64 (x.toNat:Int)),some (.int .u32 (y:Int))] (by kernel_rfl) (by simp [xr,go_sem,f5.out]) ?_
  simp only [xw,p0,p1,p2,p3]
  refine wpList_call rfl (by simp [go_sem]) ((which_any (cn:Int) (y:Int) g1 g2 (by omega) g3 y7).mono ?_)
  rintro e e9 ⟨rfl,hw9⟩
  refine ⟨_,rfl,?_⟩
  simp only [jk,jq,jv,jy]
  subst hw9
  rw [hwh.out]
  refine xm [some (.int .i64 (sm:Int)),some (.slice (some ⟨bk r,0,none⟩) (4 * s) (4 * s)),some (.int .i64 (4 * (s:Int))),some (.int .i64 (ix:Int)),some (.pointer (some ⟨bk r,ix * 128,none⟩))] (by kernel_rfl) (by simp [xr,go_sem,f6.out,f7.out.1,f7.out.2,f8.out,add00]) ?_
  simp only [xw,p0,p1,p2,p3]
  refine wpList_run rfl (.agg (row 128 (wv (pgA Mw (4 * s * r + ix)))).toArray) (xload 24 (.tmp 58) rfl (bk r) (ix * 128) 128 _ rfl (hM.out.range r hl.out ix hix.out) Tryd.underlying24 rfl infoPg) ?_
  simp only [jk,jq,jv,jy]
  have N0:=hideit (Hz3.out.cells (g':=wv (pgA Mw (4 * s * r + ix))))
  have N1:=hideit (Hz1.out.cellsOther (Ne.symm (Dz3_0.out)) (row 128 (wv (pgA Mw (4 * s * r + ix)))) 0)
  have NE:=hideit (below_setCells z3 (ABz3.out) (row 128 (wv (pgA Mw (4 * s * r + ix)))) 0 _ hE.out)
  refine xst rfl (e9.setCells z3 0 (row 128 (wv (pgA Mw (4 * s * r + ix))))) (xstore 24 (.tmp 8) (.tmp 59) rfl z3 128 _ (wv (pgA Mw (4 * s * r + ix))) rfl rfl Hz3.out infoPg (fun _ _=>rfl)) ?_
  simp only [Act.put]
  generalize e9.setCells z3 0 (row 128 (wv (pgA Mw (4 * s * r + ix)))) = x10 at N0 N1 NE ⊢
  replace Hz3:=N0
  replace Hz1:=N1
  replace hE:=NE
  clear N0 N1 NE
  go_wp2
  exact bodyPost_ret (ret_row Tryd.results53 rfl Hz3.out Tryd.underlying24 rfl infoPg) rfl ⟨rfl,hE.out⟩
end Go.Proofs.YtfbmeclpcgdmhabDoor
namespace Go.Proofs.YtfbmeclpcgdmhabDoor
open Go.RowKit Go.BigFrame
set_option linter.unusedVariables false
theorem cn_le (s ps sl ln k l:Nat) (hs:s ≤ 64) (hsl:sl < 4) (hk:k ≤ 64):cnA s ps sl ln k l ≤ 400:=by
  have b1:sl * s ≤ 4 * 64:=Nat.mul_le_mul (by omega) hs
  unfold cnA
  (repeat' split) <;> omega
theorem fs_le (s ps sl:Nat) (hs:s ≤ 64):fsA s ps sl ≤ 256:=by
  have b2:(sl + 1) % 4 * s ≤ 4 * 64:=Nat.mul_le_mul (by omega) hs
  unfold fsA
  split <;> omega
theorem oth_any (B p T M L s lb lc:Nat) (bk:Nat → Nat) (Mw:Nat → BitVec 64) (ps sl ln k:Nat) (x:BitVec 64) (w:World) (hM:Mm B p T M L s lb lc bk Mw w) (hs:2 ≤ s ∧ s ≤ 64) (hsl:sl < 4) (hk:k ≤ 64) (hln:ln < L) (hL:L ≤ 4) (hk0:ps = 0 → sl = 0 → 2 ≤ k):
    Calls Tryd.prog 53 #[.pointer (some ⟨p,0,none⟩),.agg (row 3 (tuV ps sl ln)).toArray,.int .i64 (k:Int),.int .u64 (x.toNat:Int)] w fun e w'=>e = .returned (.agg (row 128 (wv (pgA Mw (otA s L ps sl ln k x)))).toArray) ∧ Ext w w':=by
  have hx:=x.isLt
  have hfl:=fs_le s ps sl hs.2
  unfold otA ixA lnA
  by_cases a1:ps = 0
  · by_cases a2:sl = 0
    · rw [if_pos ⟨a1,a2⟩]
      have hc:=cn_pos s ps sl ln k ln hs.1 (fun h1 h2=>⟨rfl,hk0 h1 h2⟩)
      have hcb:=cn_le s ps sl ln k ln hs.2 hsl hk
      have hwf:=wh_facts (((cnA s ps sl ln k ln):Nat):Int) (((x.toNat % 4294967296):Nat):Int) (by omega) (by omega) (by omega) (by omega)
      have hwn:whI (((cnA s ps sl ln k ln):Nat):Int) (((x.toNat % 4294967296):Nat):Int) = (((whI (((cnA s ps sl ln k ln):Nat):Int) (((x.toNat % 4294967296):Nat):Int)).toNat:Nat):Int):=by omega
      have hix:(fsA s ps sl + (whI (((cnA s ps sl ln k ln):Nat):Int) (((x.toNat % 4294967296):Nat):Int)).toNat) % (4 * s) < 4 * s:=Nat.mod_lt _ (by omega)
      have e4:(4 * (s:Int)) = ((4 * s:Nat):Int):=by simp
      have ht:((fsA s ps sl + (whI (((cnA s ps sl ln k ln):Nat):Int) (((x.toNat % 4294967296):Nat):Int)).toNat:Nat):Int).tmod (4 * (s:Int)) = (((fsA s ps sl + (whI (((cnA s ps sl ln k ln):Nat):Int) (((x.toNat % 4294967296):Nat):Int)).toNat) % (4 * s):Nat):Int):=by
        rw [e4,Int.tmod_eq_emod_of_nonneg (by omega)]
        rfl
      exact oth_zero B p T M L s lb lc bk Mw ps sl ln k (x.toNat / 4294967296) (x.toNat / 4294967296 % L) (fsA s ps sl) (cnA s ps sl ln k ln) (x.toNat % 4294967296) ((whI (((cnA s ps sl ln k ln):Nat):Int) (((x.toNat % 4294967296):Nat):Int)).toNat) (fsA s ps sl + (whI (((cnA s ps sl ln k ln):Nat):Int) (((x.toNat % 4294967296):Nat):Int)).toNat) ((fsA s ps sl + (whI (((cnA s ps sl ln k ln):Nat):Int) (((x.toNat % 4294967296):Nat):Int)).toNat) % (4 * s)) x w hM hs hsl hk (by show _ < _; exact hln) hc a1 a2 (by show _ = _; omega) (by show _ = _; rw [IntKind.wrap_u64]; omega) (by
          refine ⟨by omega,?_⟩
          rw [Int.tmod_eq_emod_of_nonneg (by omega)]
          rfl) (by show _ = _; have:x.toNat / 4294967296 % L < L:=Nat.mod_lt _ (by omega); rw [IntKind.wrap_i64]; omega) rfl rfl (by show _ = _; rw [IntKind.wrap_u32]; omega) (by omega) (by omega) (by omega) hwn (by show _ = _; rw [IntKind.wrap_i64]; omega) ⟨by omega,ht⟩ (by show _ < _; rw [e4]; omega) hix
    · rw [if_neg fun h=>a2 h.2]
      have hc:=cn_pos s ps sl ln k (x.toNat / 4294967296 % L) hs.1 (fun _ h2=>absurd h2 a2)
      have hcb:=cn_le s ps sl ln k (x.toNat / 4294967296 % L) hs.2 hsl hk
      have hwf:=wh_facts (((cnA s ps sl ln k (x.toNat / 4294967296 % L)):Nat):Int) (((x.toNat % 4294967296):Nat):Int) (by omega) (by omega) (by omega) (by omega)
      have hwn:whI (((cnA s ps sl ln k (x.toNat / 4294967296 % L)):Nat):Int) (((x.toNat % 4294967296):Nat):Int) = (((whI (((cnA s ps sl ln k (x.toNat / 4294967296 % L)):Nat):Int) (((x.toNat % 4294967296):Nat):Int)).toNat:Nat):Int):=by omega
      have hix:(fsA s ps sl + (whI (((cnA s ps sl ln k (x.toNat / 4294967296 % L)):Nat):Int) (((x.toNat % 4294967296):Nat):Int)).toNat) % (4 * s) < 4 * s:=Nat.mod_lt _ (by omega)
      have e4:(4 * (s:Int)) = ((4 * s:Nat):Int):=by simp
      have ht:((fsA s ps sl + (whI (((cnA s ps sl ln k (x.toNat / 4294967296 % L)):Nat):Int) (((x.toNat % 4294967296):Nat):Int)).toNat:Nat):Int).tmod (4 * (s:Int)) = (((fsA s ps sl + (whI (((cnA s ps sl ln k (x.toNat / 4294967296 % L)):Nat):Int) (((x.toNat % 4294967296):Nat):Int)).toNat) % (4 * s):Nat):Int):=by
        rw [e4,Int.tmod_eq_emod_of_nonneg (by omega)]
        rfl
      exact oth_sl B p T M L s lb lc bk Mw ps sl ln k (x.toNat / 4294967296) (x.toNat / 4294967296 % L) (fsA s ps sl) (cnA s ps sl ln k (x.toNat / 4294967296 % L)) (x.toNat % 4294967296) ((whI (((cnA s ps sl ln k (x.toNat / 4294967296 % L)):Nat):Int) (((x.toNat % 4294967296):Nat):Int)).toNat) (fsA s ps sl + (whI (((cnA s ps sl ln k (x.toNat / 4294967296 % L)):Nat):Int) (((x.toNat % 4294967296):Nat):Int)).toNat) ((fsA s ps sl + (whI (((cnA s ps sl ln k (x.toNat / 4294967296 % L)):Nat):Int) (((x.toNat % 4294967296):Nat):Int)).toNat) % (4 * s)) x w hM hs hsl hk (by show _ < _; exact Nat.mod_lt _ (by omega)) hc a1 a2 (by show _ = _; omega) (by show _ = _; rw [IntKind.wrap_u64]; omega) (by
          refine ⟨by omega,?_⟩
          rw [Int.tmod_eq_emod_of_nonneg (by omega)]
          rfl) (by show _ = _; have:x.toNat / 4294967296 % L < L:=Nat.mod_lt _ (by omega); rw [IntKind.wrap_i64]; omega) rfl rfl (by show _ = _; rw [IntKind.wrap_u32]; omega) (by omega) (by omega) (by omega) hwn (by show _ = _; rw [IntKind.wrap_i64]; omega) ⟨by omega,ht⟩ (by show _ < _; rw [e4]; omega) hix
  · rw [if_neg fun h=>a1 h.1]
    have hc:=cn_pos s ps sl ln k (x.toNat / 4294967296 % L) hs.1 (fun h1 _=>absurd h1 a1)
    have hcb:=cn_le s ps sl ln k (x.toNat / 4294967296 % L) hs.2 hsl hk
    have hwf:=wh_facts (((cnA s ps sl ln k (x.toNat / 4294967296 % L)):Nat):Int) (((x.toNat % 4294967296):Nat):Int) (by omega) (by omega) (by omega) (by omega)
    have hwn:whI (((cnA s ps sl ln k (x.toNat / 4294967296 % L)):Nat):Int) (((x.toNat % 4294967296):Nat):Int) = (((whI (((cnA s ps sl ln k (x.toNat / 4294967296 % L)):Nat):Int) (((x.toNat % 4294967296):Nat):Int)).toNat:Nat):Int):=by omega
    have hix:(fsA s ps sl + (whI (((cnA s ps sl ln k (x.toNat / 4294967296 % L)):Nat):Int) (((x.toNat % 4294967296):Nat):Int)).toNat) % (4 * s) < 4 * s:=Nat.mod_lt _ (by omega)
    have e4:(4 * (s:Int)) = ((4 * s:Nat):Int):=by simp
    have ht:((fsA s ps sl + (whI (((cnA s ps sl ln k (x.toNat / 4294967296 % L)):Nat):Int) (((x.toNat % 4294967296):Nat):Int)).toNat:Nat):Int).tmod (4 * (s:Int)) = (((fsA s ps sl + (whI (((cnA s ps sl ln k (x.toNat / 4294967296 % L)):Nat):Int) (((x.toNat % 4294967296):Nat):Int)).toNat) % (4 * s):Nat):Int):=by
      rw [e4,Int.tmod_eq_emod_of_nonneg (by omega)]
      rfl
    exact oth_ps B p T M L s lb lc bk Mw ps sl ln k (x.toNat / 4294967296) (x.toNat / 4294967296 % L) (fsA s ps sl) (cnA s ps sl ln k (x.toNat / 4294967296 % L)) (x.toNat % 4294967296) ((whI (((cnA s ps sl ln k (x.toNat / 4294967296 % L)):Nat):Int) (((x.toNat % 4294967296):Nat):Int)).toNat) (fsA s ps sl + (whI (((cnA s ps sl ln k (x.toNat / 4294967296 % L)):Nat):Int) (((x.toNat % 4294967296):Nat):Int)).toNat) ((fsA s ps sl + (whI (((cnA s ps sl ln k (x.toNat / 4294967296 % L)):Nat):Int) (((x.toNat % 4294967296):Nat):Int)).toNat) % (4 * s)) x w hM hs hsl hk (by show _ < _; exact Nat.mod_lt _ (by omega)) hc a1 (by show _ = _; omega) (by show _ = _; rw [IntKind.wrap_u64]; omega) (by
        refine ⟨by omega,?_⟩
        rw [Int.tmod_eq_emod_of_nonneg (by omega)]
        rfl) (by show _ = _; have:x.toNat / 4294967296 % L < L:=Nat.mod_lt _ (by omega); rw [IntKind.wrap_i64]; omega) rfl rfl (by show _ = _; rw [IntKind.wrap_u32]; omega) (by omega) (by omega) (by omega) hwn (by show _ = _; rw [IntKind.wrap_i64]; omega) ⟨by omega,ht⟩ (by show _ < _; rw [e4]; omega) hix
theorem idx7 (g:Nat → Int) (n:Nat) (hn:n < 7) (X:World):(Instr.index 99 (.agg (row 7 fun i=>.int .i64 (g i)).toArray) (.int .i64 (n:Int))).run Tryd.prog X = .ok (.int .i64 (g n)) X:=by
  have hs:∀ X,(sizeOf 3).run Tryd.prog X = .ok 1 X:=fun X=>by kernel_rfl
  have ha:∀ X,(isAgg 3).run Tryd.prog X = .ok false X:=fun X=>by kernel_rfl
  have hg:=row_get 7 (fun i=>Value.int .i64 (g i)) n hn
  simp [Instr.index,run_underlying Tryd.underlying99,asIntOf,hn,part,ha,hs,hg,go_sem]
def zAV (ps sl ln tot T:Nat) (i:Nat):Nat := [ps,ln,sl,tot,T,2,1].getD i 0
def zAK (ps sl ln tot T n:Nat):Nat → BitVec 64:=fun j=>if j < n then zA ps sl ln tot T j else 0#64
theorem zAK_end (ps sl ln tot T:Nat):zAK ps sl ln tot T 7 = zA ps sl ln tot T:=by
  funext j
  unfold zAK
  by_cases h:j < 7
  · rw [if_pos h]
  · rw [if_neg h]
    unfold zA
    rw [List.getD_eq_getElem?_getD,List.getElem?_eq_none (by simpa using h)]
    rfl
set_option maxRecDepth 20000 in
set_option maxHeartbeats 4000000 in
theorem pages_ok (T M L:Nat) (w:World) (hp:okP (T:Int) (M:Int) (L:Int)):Calls Tryd.prog 16 #[.agg (row 3 (pav (T:Int) (M:Int) (L:Int))).toArray] w fun e w'=>e = .returned (.int .i64 ((4 * (M / (4 * L)) * L:Nat):Int)) ∧ Ext w w':=by
  have h3:1 ≤ L ∧ L ≤ 4 ∧ M ≤ 256:=⟨by have:=hp.2.1.1; omega,by have:=hp.2.1.2; omega,by have:=hp.2.2.2; omega⟩
  have hl:=Nat.div_le_self M (4 * L)
  obtain ⟨q,hq⟩:∃ q,q = M / (4 * L):=⟨_,rfl⟩
  have hm:L * q ≤ 4 * 256:=Nat.mul_le_mul h3.2.1 (by omega)
  have z1:IntKind.i64.wrap ((L:Int) * 4) = (L:Int) * 4:=by rw [IntKind.wrap_i64]; omega
  have z2:IntKind.i64.wrap ((L:Int) * 4 * (q:Int)) = ((4 * q * L:Nat):Int):=by
    have e:(L:Int) * 4 * (q:Int) = ((4 * (L * q):Nat):Int):=by push_cast; rw [Int.mul_comm (L:Int) 4,Int.mul_assoc]
    rw [e,show 4 * q * L = 4 * (L * q) by rw [Nat.mul_assoc,Nat.mul_comm q L],IntKind.wrap_i64]
    omega
  obtain ⟨tt,htt⟩:∃ t,t = 4 * q * L:=⟨_,rfl⟩
  rw [← hq,← htt]
  rw [← htt] at z2
  replace hq:=hideit hq
  replace z1:=hideit z1
  replace z2:=hideit z2
  clear h3 hl hm htt
  obtain ⟨c,w1,hw,hc,H0,hE⟩:=boxes1 w 3 (pav (T:Int) (M:Int) (L:Int)) 31
  go_enter Tryd.func16,Tryd.ntmps16
  go_upto_region 1 with (fail)
  rw [← hw.out,← hc.out]
  clear hw hc
  refine wp_region_lit ?_
  refine wpList_run rfl (.agg (row 3 (pav (T:Int) (M:Int) (L:Int))).toArray) (xload 31 (.tmp 1) rfl c 0 3 _ rfl H0.out.range Tryd.underlying31 rfl infoPa) ?_
  simp only [jk,jq,jv,jy]
  refine wpList_call rfl (by simp [go_sem]) ((acheck (T:Int) (M:Int) (L:Int) w1 0 ⟨fun _=>rfl,fun h=>absurd hp h⟩).mono ?_)
  rintro e y1 ⟨rfl,hX2⟩
  refine ⟨_,rfl,?_⟩
  simp only [jk,jq,jv,jy]
  replace H0:=hideit (H0.out.carry hX2)
  replace hE:=hideit (Ext.trans hE.out hX2)
  clear hX2
  refine xm [some (.bool false)] (by kernel_rfl) (by simp [xr,go_sem]) ?_
  simp only [xw,p0,p1,p2,p3]
  go_upto_region 3 with (fail)
  replace H0:=hideit H0.out.drew
  replace hE:=hideit (Ext.draw hE.out)
  refine wp_region_lad (fun X=>Ext y1.drew X) [(false,0),(false,1),(false,2),(false,3),(true,4),(false,5),(false,6)] (by kernel_rfl) (by kernel_rfl) (by decide +kernel) (by decide +kernel) (by decide +kernel) (by decide +kernel) (Ext.refl _) ?_
  refine wpX_f _ (.pointer (some ⟨c,2,none⟩)) rfl rfl (fun X _=>by simp [go_sem]) ?_
  simp only [List.getElem_toArray,List.getElem_cons_zero,Act.put,List.setIfInBounds_toArray,List.set_cons_zero,List.set_cons_succ]
  refine wpX_f _ (.int .i64 (L:Int)) rfl rfl (fun X hX=>by have m3:X.cell? ⟨c,2,none⟩ = some (.int .i64 (L:Int)):=(H0.out.carry hX).1 2 (by decide); simp [go_sem,m3]) ?_
  simp only [jw,jz,kj,jk,jq,jv,jy]
  refine wpX_f _ (.int .i64 ((L:Int) * 4)) rfl rfl (fun X _=>by simp [go_sem,z1.out]) ?_
  simp only [jw,jz,kj,jk,jq,jv,jy]
  refine wpX_f _ (.agg (row 3 (pav (T:Int) (M:Int) (L:Int))).toArray) rfl rfl (fun X hX=>xload 31 (.tmp 1) rfl c 0 3 _ rfl (H0.out.carry hX).range Tryd.underlying31 rfl infoPa) ?_
  simp only [jw,jz,kj,jk,jq,jv,jy]
  refine wpX_call _ rfl rfl (by simp [go_sem]) ((slp_any (T:Int) M L y1.drew hp).mono ?_)
  rintro e y4 ⟨rfl,hX5⟩
  refine ⟨_,rfl,fun X=>Ext y4 X,fun X hX=>Ext.trans hX5 hX,Ext.refl _,?_⟩
  simp only [jw,jz,kj,jk,jq,jv,jy]
  replace H0:=hideit (H0.out.carry hX5)
  replace hE:=hideit (Ext.trans hE.out hX5)
  rw [← hq.out]
  clear hX5
  refine wpX_f _ (.int .i64 (tt:Int)) rfl rfl (fun X _=>by simp [go_sem,z2.out]) ?_
  simp only [jw,jz,kj,jk,jq,jv,jy]
  refine wpX_f _ (.int .i64 (tt:Int)) rfl rfl (fun X _=>by simp [go_sem]) ?_
  simp only [jw,jz,kj,jk,jq,jv,jy]
  refine wpX_nil ?_
  go_wp2
  go_ret
  exact ⟨rfl,hE.out⟩
end Go.Proofs.YtfbmeclpcgdmhabDoor
