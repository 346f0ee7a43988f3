/-
  The document's other page. The document's other page.
-/
import Derived.Test.YtfbmeclpcgdmhabDoorQk1
import Derived.Test.YtfbmeclpcgdmhabDoorQk39
namespace Go.Proofs.YtfbmeclpcgdmhabDoor
open Go.RowKit Go.BigFrame
set_option linter.unusedVariables false
set_option maxRecDepth 20000 in
set_option maxHeartbeats 4000000 in
theorem roth_zero_same (p T M L q b c ps sl ln k s v r bs bs2 a m fs c1 cn o1 y wh sm ix res:Nat) (x:BitVec 64) (w:World) (hM:RowAt p 9 (rmV T M L q b c ps sl ln k) w) (a1:ps = 0) (a2:sl = 0) (f0:Hid ((q:Int) / 4 = (s:Int) ∧ IntKind.i64.wrap (s:Int) = (s:Int))) (f1:Hid ((x.toNat:Int) / 4294967296 = (v:Int))) (f2:Hid (IntKind.i64.wrap (v:Int) = (v:Int))) (f3:Hid (¬ L = 0 ∧ (v:Int).tmod (L:Int) = (r:Int))) (f4:Hid (IntKind.i64.wrap ((sl:Int) * (s:Int)) = (bs:Int))) (g1:Hid (IntKind.i64.wrap ((bs:Int) + (k:Int)) = (c1:Int))) (g2:Hid (IntKind.i64.wrap ((c1:Int) - 1) = (cn:Int))) (h1:Hid (IntKind.i64.wrap ((q:Int) * (ln:Int)) = (o1:Int))) (h2:Hid (IntKind.u32.wrap (x.toNat:Int) = (y:Int))) (hw:Hid (whI (cn:Int) (y:Int) = (wh:Int))) (h3:Hid (IntKind.i64.wrap (wh:Int) = (sm:Int))) (h4:Hid (¬ q = 0 ∧ (sm:Int).tmod (q:Int) = (ix:Int))) (h5:Hid (IntKind.i64.wrap ((o1:Int) + (ix:Int)) = (res:Int))) (e1:1 ≤ (cn:Int)) (e2:(cn:Int) ≤ 2147483647) (e3:(y:Int) ≤ 4294967295):Calls Tryd.prog 56 #[.pointer (some ⟨p,0,none⟩),.int .u64 (x.toNat:Int)] w fun e w'=>e = .returned (.int .i64 (res:Int)) ∧ Ext w w':=by
  have pp0:Hid (¬ 0 < ps):=by show ¬ _; omega
  replace a1:=hideit a1
  replace a2:=hideit a2
  have hE:=hideit (Ext.refl w)
  replace hM:=hideit hM
  go_enter Tryd.func56,Tryd.ntmps56
  go_upto_region 1 with (fail)
  refine wp_region_lit ?_
  have m1:w.cell? ⟨p,3,none⟩ = some (.int .i64 (q:Int)):=hM.out.1 3 (by decide)
  refine xm [some (.pointer (some ⟨p,0,none⟩)),some (.pointer (some ⟨p,0,none⟩)),some (.pointer (some ⟨p,3,none⟩)),some (.int .i64 (q:Int)),some (.int .i64 (s:Int)),some (.int .i64 (s:Int))] (by kernel_rfl) (by simp [xr,go_sem,m1,f0.out.1,f0.out.2]) ?_
  simp only [xw,p0,p1,p2,p3]
  clear m1
  go_upto_region 2 with (fail)
  refine wp_region_lit ?_
  have m2:w.cell? ⟨p,2,none⟩ = some (.int .i64 (L:Int)):=hM.out.1 2 (by decide)
  refine xm [some (.int .u64 (x.toNat:Int)),some (.int .u64 (v:Int)),some (.int .i64 (v:Int)),some (.pointer (some ⟨p,0,none⟩)),some (.pointer (some ⟨p,0,none⟩)),some (.pointer (some ⟨p,0,none⟩)),some (.pointer (some ⟨p,2,none⟩)),some (.int .i64 (L:Int)),some (.int .i64 (r:Int)),some (.int .i64 (r:Int))] (by kernel_rfl) (by simp [xr,go_sem,f1.out,f2.out,m2,f3.out.1,f3.out.2]) ?_
  simp only [xw,p0,p1,p2,p3]
  clear m2
  go_upto_region 3 with (fail)
  refine wp_region_lit ?_
  have m3:w.cell? ⟨p,5,none⟩ = some (.int .i64 (ps:Int)):=hM.out.1 5 (by decide)
  have m4:w.cell? ⟨p,6,none⟩ = some (.int .i64 (sl:Int)):=hM.out.1 6 (by decide)
  refine xm [some (.pointer (some ⟨p,0,none⟩)),some (.pointer (some ⟨p,0,none⟩)),some (.pointer (some ⟨p,5,none⟩)),some (.int .i64 (ps:Int)),some (.bool true),some (.bool true),some (.pointer (some ⟨p,0,none⟩)),some (.pointer (some ⟨p,0,none⟩)),some (.pointer (some ⟨p,6,none⟩)),some (.int .i64 (sl:Int)),some (.bool true),some (.bool true)] (by kernel_rfl) (by simp [xr,go_sem,m3,a1.out,m4,a2.out]) ?_
  simp only [xw,p0,p1,p2,p3]
  clear m3
  clear m4
  go_upto_region 4 with (fail)
  refine wp_region_lit ?_
  have m5:w.cell? ⟨p,7,none⟩ = some (.int .i64 (ln:Int)):=hM.out.1 7 (by decide)
  refine xm [some (.pointer (some ⟨p,0,none⟩)),some (.pointer (some ⟨p,0,none⟩)),some (.pointer (some ⟨p,7,none⟩)),some (.int .i64 (ln:Int)),some (.int .i64 (ln:Int))] (by kernel_rfl) (by simp [xr,go_sem,m5]) ?_
  simp only [xw,p0,p1,p2,p3]
  clear m5
  go_upto_region 5 with (fail)
  refine wp_region_lit ?_
  have m6:w.cell? ⟨p,6,none⟩ = some (.int .i64 (sl:Int)):=hM.out.1 6 (by decide)
  refine xm [some (.pointer (some ⟨p,0,none⟩)),some (.pointer (some ⟨p,0,none⟩)),some (.pointer (some ⟨p,6,none⟩)),some (.int .i64 (sl:Int)),some (.int .i64 (s:Int)),some (.int .i64 (bs:Int)),some (.int .i64 (bs:Int))] (by kernel_rfl) (by simp [xr,go_sem,m6,f4.out]) ?_
  simp only [xw,p0,p1,p2,p3]
  clear m6
  go_upto_region 7 with (fail)
  refine wp_region_lit ?_
  have m7:w.cell? ⟨p,5,none⟩ = some (.int .i64 (ps:Int)):=hM.out.1 5 (by decide)
  refine xm [some (.pointer (some ⟨p,0,none⟩)),some (.pointer (some ⟨p,0,none⟩)),some (.pointer (some ⟨p,5,none⟩)),some (.int .i64 (ps:Int)),some (.bool false)] (by kernel_rfl) (by simp [xr,go_sem,m7,pp0.out]) ?_
  simp only [xw,p0,p1,p2,p3]
  clear m7
  go_upto_region 10 with (fail)
  refine wp_region_lit ?_
  have m8:w.cell? ⟨p,7,none⟩ = some (.int .i64 (ln:Int)):=hM.out.1 7 (by decide)
  refine xm [some (.int .i64 (ln:Int)),some (.pointer (some ⟨p,0,none⟩)),some (.pointer (some ⟨p,0,none⟩)),some (.pointer (some ⟨p,7,none⟩)),some (.int .i64 (ln:Int)),some (.bool true)] (by kernel_rfl) (by simp [xr,go_sem,m8]) ?_
  simp only [xw,p0,p1,p2,p3]
  clear m8
  go_upto_region 11 with (fail)
  refine wp_region_lit ?_
  have m9:w.cell? ⟨p,8,none⟩ = some (.int .i64 (k:Int)):=hM.out.1 8 (by decide)
  refine xm [some (.int .i64 (bs:Int)),some (.pointer (some ⟨p,0,none⟩)),some (.pointer (some ⟨p,0,none⟩)),some (.pointer (some ⟨p,8,none⟩)),some (.int .i64 (k:Int)),some (.int .i64 (c1:Int)),some (.int .i64 (cn:Int)),some (.int .i64 (cn:Int))] (by kernel_rfl) (by simp [xr,go_sem,m9,g1.out,g2.out]) ?_
  simp only [xw,p0,p1,p2,p3]
  clear m9
  go_upto_region 14 with (fail)
  replace hM:=hideit hM.out.drew
  replace hE:=hideit (Ext.draw hE.out)
  refine wp_region_lad (fun X=>Ext w.drew X) [(false,0),(false,1),(false,2),(false,3),(false,4),(false,5),(false,6),(false,7),(false,8),(false,9),(false,12),(false,13),(false,14),(false,15),(true,10),(false,11),(false,16),(false,17),(false,18)] (by kernel_rfl) (by kernel_rfl) (by decide +kernel) (by decide +kernel) (by decide +kernel) (by decide +kernel) (Ext.refl _) ?_
  refine wpX_f _ (.pointer (some ⟨p,0,none⟩)) rfl rfl (fun X _=>by simp [go_sem]) ?_
  simp only [List.getElem_toArray,List.getElem_cons_zero,Act.put,List.setIfInBounds_toArray,List.set_cons_zero,List.set_cons_succ]
  refine wpX_f _ (.pointer (some ⟨p,0,none⟩)) rfl rfl (fun X _=>by simp [go_sem]) ?_
  simp only [jw,jz,kj,jk,jq,jv,jy]
  refine wpX_f _ (.pointer (some ⟨p,3,none⟩)) rfl rfl (fun X _=>by simp [go_sem]) ?_
  simp only [jw,jz,kj,jk,jq,jv,jy]
  refine wpX_f _ (.int .i64 (q:Int)) rfl rfl (fun X hX=>by have m10:X.cell? ⟨p,3,none⟩ = some (.int .i64 (q:Int)):=(hM.out.carry hX).1 3 (by decide); simp [go_sem,m10]) ?_
  simp only [jw,jz,kj,jk,jq,jv,jy]
  refine wpX_f _ (.int .i64 (ln:Int)) rfl rfl (fun X _=>by simp [go_sem]) ?_
  simp only [jw,jz,kj,jk,jq,jv,jy]
  refine wpX_f _ (.int .i64 (o1:Int)) rfl rfl (fun X _=>by simp [go_sem,h1.out]) ?_
  simp only [jw,jz,kj,jk,jq,jv,jy]
  refine wpX_f _ (.int .i64 0) rfl rfl (fun X _=>by simp [go_sem]) ?_
  simp only [jw,jz,kj,jk,jq,jv,jy]
  refine wpX_f _ (.int .i64 (cn:Int)) rfl rfl (fun X _=>by simp [go_sem]) ?_
  simp only [jw,jz,kj,jk,jq,jv,jy]
  refine wpX_f _ (.int .u64 (x.toNat:Int)) rfl rfl (fun X _=>by simp [go_sem]) ?_
  simp only [jw,jz,kj,jk,jq,jv,jy]
  refine wpX_f _ (.int .u32 (y:Int)) rfl rfl (fun X _=>by simp [go_sem,h2.out]) ?_
  simp only [jw,jz,kj,jk,jq,jv,jy]
  refine wpX_f _ (.pointer (some ⟨p,0,none⟩)) rfl rfl (fun X _=>by simp [go_sem]) ?_
  simp only [jw,jz,kj,jk,jq,jv,jy]
  refine wpX_f _ (.pointer (some ⟨p,0,none⟩)) rfl rfl (fun X _=>by simp [go_sem]) ?_
  simp only [jw,jz,kj,jk,jq,jv,jy]
  refine wpX_f _ (.pointer (some ⟨p,3,none⟩)) rfl rfl (fun X _=>by simp [go_sem]) ?_
  simp only [jw,jz,kj,jk,jq,jv,jy]
  refine wpX_f _ (.int .i64 (q:Int)) rfl rfl (fun X hX=>by have m11:X.cell? ⟨p,3,none⟩ = some (.int .i64 (q:Int)):=(hM.out.carry hX).1 3 (by decide); simp [go_sem,m11]) ?_
  simp only [jw,jz,kj,jk,jq,jv,jy]
  refine wpX_call _ rfl rfl (by simp [go_sem]) ((rwhich_any (cn:Int) (y:Int) e1 e2 (by omega) e3 w.drew).mono ?_)
  rintro e e9 ⟨rfl,hw9⟩
  have hX9:Ext w.drew e9:=by rw [hw9]; exact Ext.refl _
  clear hw9
  refine ⟨_,rfl,fun X=>Ext e9 X,fun X hX=>Ext.trans hX9 hX,Ext.refl _,?_⟩
  simp only [jw,jz,kj,jk,jq,jv,jy]
  replace hM:=hideit (hM.out.carry hX9)
  replace hE:=hideit (Ext.trans hE.out hX9)
  rw [hw.out]
  clear hX9
  refine wpX_f _ (.int .i64 (sm:Int)) rfl rfl (fun X _=>by simp [go_sem,h3.out]) ?_
  simp only [jw,jz,kj,jk,jq,jv,jy]
  refine wpX_f _ (.int .i64 (ix:Int)) rfl rfl (fun X _=>by simp [go_sem,h4.out.1,h4.out.2]) ?_
  simp only [jw,jz,kj,jk,jq,jv,jy]
  refine wpX_f _ (.int .i64 (res:Int)) rfl rfl (fun X _=>by simp [go_sem,h5.out]) ?_
  simp only [jw,jz,kj,jk,jq,jv,jy]
  refine wpX_f _ (.int .i64 (res:Int)) rfl rfl (fun X _=>by simp [go_sem]) ?_
  simp only [jw,jz,kj,jk,jq,jv,jy]
  refine wpX_nil ?_
  go_wp2
  go_ret
  exact ⟨rfl,hE.out⟩
set_option maxRecDepth 20000 in
set_option maxHeartbeats 4000000 in
theorem roth_sl_same (p T M L q b c ps sl ln k s v r bs bs2 a m fs c1 cn o1 y wh sm ix res:Nat) (x:BitVec 64) (w:World) (hM:RowAt p 9 (rmV T M L q b c ps sl ln k) w) (a1:ps = 0) (a2:¬ sl = 0) (a3:(r:Int) = (ln:Int)) (f0:Hid ((q:Int) / 4 = (s:Int) ∧ IntKind.i64.wrap (s:Int) = (s:Int))) (f1:Hid ((x.toNat:Int) / 4294967296 = (v:Int))) (f2:Hid (IntKind.i64.wrap (v:Int) = (v:Int))) (f3:Hid (¬ L = 0 ∧ (v:Int).tmod (L:Int) = (r:Int))) (f4:Hid (IntKind.i64.wrap ((sl:Int) * (s:Int)) = (bs:Int))) (g1:Hid (IntKind.i64.wrap ((bs:Int) + (k:Int)) = (c1:Int))) (g2:Hid (IntKind.i64.wrap ((c1:Int) - 1) = (cn:Int))) (h1:Hid (IntKind.i64.wrap ((q:Int) * (r:Int)) = (o1:Int))) (h2:Hid (IntKind.u32.wrap (x.toNat:Int) = (y:Int))) (hw:Hid (whI (cn:Int) (y:Int) = (wh:Int))) (h3:Hid (IntKind.i64.wrap (wh:Int) = (sm:Int))) (h4:Hid (¬ q = 0 ∧ (sm:Int).tmod (q:Int) = (ix:Int))) (h5:Hid (IntKind.i64.wrap ((o1:Int) + (ix:Int)) = (res:Int))) (e1:1 ≤ (cn:Int)) (e2:(cn:Int) ≤ 2147483647) (e3:(y:Int) ≤ 4294967295):Calls Tryd.prog 56 #[.pointer (some ⟨p,0,none⟩),.int .u64 (x.toNat:Int)] w fun e w'=>e = .returned (.int .i64 (res:Int)) ∧ Ext w w':=by
  have pp0:Hid (¬ 0 < ps):=by show ¬ _; omega
  replace a1:=hideit a1
  replace a2:=hideit a2
  replace a3:=hideit a3
  have hE:=hideit (Ext.refl w)
  replace hM:=hideit hM
  go_enter Tryd.func56,Tryd.ntmps56
  go_upto_region 1 with (fail)
  refine wp_region_lit ?_
  have m1:w.cell? ⟨p,3,none⟩ = some (.int .i64 (q:Int)):=hM.out.1 3 (by decide)
  refine xm [some (.pointer (some ⟨p,0,none⟩)),some (.pointer (some ⟨p,0,none⟩)),some (.pointer (some ⟨p,3,none⟩)),some (.int .i64 (q:Int)),some (.int .i64 (s:Int)),some (.int .i64 (s:Int))] (by kernel_rfl) (by simp [xr,go_sem,m1,f0.out.1,f0.out.2]) ?_
  simp only [xw,p0,p1,p2,p3]
  clear m1
  go_upto_region 2 with (fail)
  refine wp_region_lit ?_
  have m2:w.cell? ⟨p,2,none⟩ = some (.int .i64 (L:Int)):=hM.out.1 2 (by decide)
  refine xm [some (.int .u64 (x.toNat:Int)),some (.int .u64 (v:Int)),some (.int .i64 (v:Int)),some (.pointer (some ⟨p,0,none⟩)),some (.pointer (some ⟨p,0,none⟩)),some (.pointer (some ⟨p,0,none⟩)),some (.pointer (some ⟨p,2,none⟩)),some (.int .i64 (L:Int)),some (.int .i64 (r:Int)),some (.int .i64 (r:Int))] (by kernel_rfl) (by simp [xr,go_sem,f1.out,f2.out,m2,f3.out.1,f3.out.2]) ?_
  simp only [xw,p0,p1,p2,p3]
  clear m2
  go_upto_region 3 with (fail)
  refine wp_region_lit ?_
  have m3:w.cell? ⟨p,5,none⟩ = some (.int .i64 (ps:Int)):=hM.out.1 5 (by decide)
  have m4:w.cell? ⟨p,6,none⟩ = some (.int .i64 (sl:Int)):=hM.out.1 6 (by decide)
  refine xm [some (.pointer (some ⟨p,0,none⟩)),some (.pointer (some ⟨p,0,none⟩)),some (.pointer (some ⟨p,5,none⟩)),some (.int .i64 (ps:Int)),some (.bool true),some (.bool true),some (.pointer (some ⟨p,0,none⟩)),some (.pointer (some ⟨p,0,none⟩)),some (.pointer (some ⟨p,6,none⟩)),some (.int .i64 (sl:Int)),some (.bool false),some (.bool false)] (by kernel_rfl) (by simp [xr,go_sem,m3,a1.out,m4,a2.out]) ?_
  simp only [xw,p0,p1,p2,p3]
  clear m3
  clear m4
  go_upto_region 5 with (fail)
  refine wp_region_lit ?_
  have m5:w.cell? ⟨p,6,none⟩ = some (.int .i64 (sl:Int)):=hM.out.1 6 (by decide)
  refine xm [some (.pointer (some ⟨p,0,none⟩)),some (.pointer (some ⟨p,0,none⟩)),some (.pointer (some ⟨p,6,none⟩)),some (.int .i64 (sl:Int)),some (.int .i64 (s:Int)),some (.int .i64 (bs:Int)),some (.int .i64 (bs:Int))] (by kernel_rfl) (by simp [xr,go_sem,m5,f4.out]) ?_
  simp only [xw,p0,p1,p2,p3]
  clear m5
  go_upto_region 7 with (fail)
  refine wp_region_lit ?_
  have m6:w.cell? ⟨p,5,none⟩ = some (.int .i64 (ps:Int)):=hM.out.1 5 (by decide)
  refine xm [some (.pointer (some ⟨p,0,none⟩)),some (.pointer (some ⟨p,0,none⟩)),some (.pointer (some ⟨p,5,none⟩)),some (.int .i64 (ps:Int)),some (.bool false)] (by kernel_rfl) (by simp [xr,go_sem,m6,pp0.out]) ?_
  simp only [xw,p0,p1,p2,p3]
  clear m6
  go_upto_region 10 with (fail)
  refine wp_region_lit ?_
  have m7:w.cell? ⟨p,7,none⟩ = some (.int .i64 (ln:Int)):=hM.out.1 7 (by decide)
  refine xm [some (.int .i64 (r:Int)),some (.pointer (some ⟨p,0,none⟩)),some (.pointer (some ⟨p,0,none⟩)),some (.pointer (some ⟨p,7,none⟩)),some (.int .i64 (ln:Int)),some (.bool true)] (by kernel_rfl) (by simp [xr,go_sem,m7,a3.out]) ?_
  simp only [xw,p0,p1,p2,p3]
  clear m7
  go_upto_region 11 with (fail)
  refine wp_region_lit ?_
  have m8:w.cell? ⟨p,8,none⟩ = some (.int .i64 (k:Int)):=hM.out.1 8 (by decide)
  refine xm [some (.int .i64 (bs:Int)),some (.pointer (some ⟨p,0,none⟩)),some (.pointer (some ⟨p,0,none⟩)),some (.pointer (some ⟨p,8,none⟩)),some (.int .i64 (k:Int)),some (.int .i64 (c1:Int)),some (.int .i64 (cn:Int)),some (.int .i64 (cn:Int))] (by kernel_rfl) (by simp [xr,go_sem,m8,g1.out,g2.out]) ?_
  simp only [xw,p0,p1,p2,p3]
  clear m8
  go_upto_region 14 with (fail)
  replace hM:=hideit hM.out.drew
  replace hE:=hideit (Ext.draw hE.out)
  refine wp_region_lad (fun X=>Ext w.drew X) [(false,0),(false,1),(false,2),(false,3),(false,4),(false,5),(false,6),(false,7),(false,8),(false,9),(false,12),(false,13),(false,14),(false,15),(true,10),(false,11),(false,16),(false,17),(false,18)] (by kernel_rfl) (by kernel_rfl) (by decide +kernel) (by decide +kernel) (by decide +kernel) (by decide +kernel) (Ext.refl _) ?_
  refine wpX_f _ (.pointer (some ⟨p,0,none⟩)) rfl rfl (fun X _=>by simp [go_sem]) ?_
  simp only [List.getElem_toArray,List.getElem_cons_zero,Act.put,List.setIfInBounds_toArray,List.set_cons_zero,List.set_cons_succ]
  refine wpX_f _ (.pointer (some ⟨p,0,none⟩)) rfl rfl (fun X _=>by simp [go_sem]) ?_
  simp only [jw,jz,kj,jk,jq,jv,jy]
  refine wpX_f _ (.pointer (some ⟨p,3,none⟩)) rfl rfl (fun X _=>by simp [go_sem]) ?_
  simp only [jw,jz,kj,jk,jq,jv,jy]
  refine wpX_f _ (.int .i64 (q:Int)) rfl rfl (fun X hX=>by have m9:X.cell? ⟨p,3,none⟩ = some (.int .i64 (q:Int)):=(hM.out.carry hX).1 3 (by decide); simp [go_sem,m9]) ?_
  simp only [jw,jz,kj,jk,jq,jv,jy]
  refine wpX_f _ (.int .i64 (r:Int)) rfl rfl (fun X _=>by simp [go_sem]) ?_
  simp only [jw,jz,kj,jk,jq,jv,jy]
  refine wpX_f _ (.int .i64 (o1:Int)) rfl rfl (fun X _=>by simp [go_sem,h1.out]) ?_
  simp only [jw,jz,kj,jk,jq,jv,jy]
  refine wpX_f _ (.int .i64 0) rfl rfl (fun X _=>by simp [go_sem]) ?_
  simp only [jw,jz,kj,jk,jq,jv,jy]
  refine wpX_f _ (.int .i64 (cn:Int)) rfl rfl (fun X _=>by simp [go_sem]) ?_
  simp only [jw,jz,kj,jk,jq,jv,jy]
  refine wpX_f _ (.int .u64 (x.toNat:Int)) rfl rfl (fun X _=>by simp [go_sem]) ?_
  simp only [jw,jz,kj,jk,jq,jv,jy]
  refine wpX_f _ (.int .u32 (y:Int)) rfl rfl (fun X _=>by simp [go_sem,h2.out]) ?_
  simp only [jw,jz,kj,jk,jq,jv,jy]
  refine wpX_f _ (.pointer (some ⟨p,0,none⟩)) rfl rfl (fun X _=>by simp [go_sem]) ?_
  simp only [jw,jz,kj,jk,jq,jv,jy]
  refine wpX_f _ (.pointer (some ⟨p,0,none⟩)) rfl rfl (fun X _=>by simp [go_sem]) ?_
  simp only [jw,jz,kj,jk,jq,jv,jy]
  refine wpX_f _ (.pointer (some ⟨p,3,none⟩)) rfl rfl (fun X _=>by simp [go_sem]) ?_
  simp only [jw,jz,kj,jk,jq,jv,jy]
  refine wpX_f _ (.int .i64 (q:Int)) rfl rfl (fun X hX=>by have m10:X.cell? ⟨p,3,none⟩ = some (.int .i64 (q:Int)):=(hM.out.carry hX).1 3 (by decide); simp [go_sem,m10]) ?_
  simp only [jw,jz,kj,jk,jq,jv,jy]
  refine wpX_call _ rfl rfl (by simp [go_sem]) ((rwhich_any (cn:Int) (y:Int) e1 e2 (by omega) e3 w.drew).mono ?_)
  rintro e e9 ⟨rfl,hw9⟩
  have hX9:Ext w.drew e9:=by rw [hw9]; exact Ext.refl _
  clear hw9
  refine ⟨_,rfl,fun X=>Ext e9 X,fun X hX=>Ext.trans hX9 hX,Ext.refl _,?_⟩
  simp only [jw,jz,kj,jk,jq,jv,jy]
  replace hM:=hideit (hM.out.carry hX9)
  replace hE:=hideit (Ext.trans hE.out hX9)
  rw [hw.out]
  clear hX9
  refine wpX_f _ (.int .i64 (sm:Int)) rfl rfl (fun X _=>by simp [go_sem,h3.out]) ?_
  simp only [jw,jz,kj,jk,jq,jv,jy]
  refine wpX_f _ (.int .i64 (ix:Int)) rfl rfl (fun X _=>by simp [go_sem,h4.out.1,h4.out.2]) ?_
  simp only [jw,jz,kj,jk,jq,jv,jy]
  refine wpX_f _ (.int .i64 (res:Int)) rfl rfl (fun X _=>by simp [go_sem,h5.out]) ?_
  simp only [jw,jz,kj,jk,jq,jv,jy]
  refine wpX_f _ (.int .i64 (res:Int)) rfl rfl (fun X _=>by simp [go_sem]) ?_
  simp only [jw,jz,kj,jk,jq,jv,jy]
  refine wpX_nil ?_
  go_wp2
  go_ret
  exact ⟨rfl,hE.out⟩
set_option maxRecDepth 20000 in
set_option maxHeartbeats 4000000 in
theorem roth_sl_zero (p T M L q b c ps sl ln k s v r bs bs2 a m fs c1 cn o1 y wh sm ix res:Nat) (x:BitVec 64) (w:World) (hM:RowAt p 9 (rmV T M L q b c ps sl ln k) w) (a1:ps = 0) (a2:¬ sl = 0) (a3:¬ (r:Int) = (ln:Int)) (a4:k = 0) (f0:Hid ((q:Int) / 4 = (s:Int) ∧ IntKind.i64.wrap (s:Int) = (s:Int))) (f1:Hid ((x.toNat:Int) / 4294967296 = (v:Int))) (f2:Hid (IntKind.i64.wrap (v:Int) = (v:Int))) (f3:Hid (¬ L = 0 ∧ (v:Int).tmod (L:Int) = (r:Int))) (f4:Hid (IntKind.i64.wrap ((sl:Int) * (s:Int)) = (bs:Int))) (g2:Hid (IntKind.i64.wrap ((bs:Int) - 1) = (cn:Int))) (h1:Hid (IntKind.i64.wrap ((q:Int) * (r:Int)) = (o1:Int))) (h2:Hid (IntKind.u32.wrap (x.toNat:Int) = (y:Int))) (hw:Hid (whI (cn:Int) (y:Int) = (wh:Int))) (h3:Hid (IntKind.i64.wrap (wh:Int) = (sm:Int))) (h4:Hid (¬ q = 0 ∧ (sm:Int).tmod (q:Int) = (ix:Int))) (h5:Hid (IntKind.i64.wrap ((o1:Int) + (ix:Int)) = (res:Int))) (e1:1 ≤ (cn:Int)) (e2:(cn:Int) ≤ 2147483647) (e3:(y:Int) ≤ 4294967295):Calls Tryd.prog 56 #[.pointer (some ⟨p,0,none⟩),.int .u64 (x.toNat:Int)] w fun e w'=>e = .returned (.int .i64 (res:Int)) ∧ Ext w w':=by
  have pp0:Hid (¬ 0 < ps):=by show ¬ _; omega
  replace a1:=hideit a1
  replace a2:=hideit a2
  replace a3:=hideit a3
  replace a4:=hideit a4
  have hE:=hideit (Ext.refl w)
  replace hM:=hideit hM
  go_enter Tryd.func56,Tryd.ntmps56
  go_upto_region 1 with (fail)
  refine wp_region_lit ?_
  have m1:w.cell? ⟨p,3,none⟩ = some (.int .i64 (q:Int)):=hM.out.1 3 (by decide)
  refine xm [some (.pointer (some ⟨p,0,none⟩)),some (.pointer (some ⟨p,0,none⟩)),some (.pointer (some ⟨p,3,none⟩)),some (.int .i64 (q:Int)),some (.int .i64 (s:Int)),some (.int .i64 (s:Int))] (by kernel_rfl) (by simp [xr,go_sem,m1,f0.out.1,f0.out.2]) ?_
  simp only [xw,p0,p1,p2,p3]
  clear m1
  go_upto_region 2 with (fail)
  refine wp_region_lit ?_
  have m2:w.cell? ⟨p,2,none⟩ = some (.int .i64 (L:Int)):=hM.out.1 2 (by decide)
  refine xm [some (.int .u64 (x.toNat:Int)),some (.int .u64 (v:Int)),some (.int .i64 (v:Int)),some (.pointer (some ⟨p,0,none⟩)),some (.pointer (some ⟨p,0,none⟩)),some (.pointer (some ⟨p,0,none⟩)),some (.pointer (some ⟨p,2,none⟩)),some (.int .i64 (L:Int)),some (.int .i64 (r:Int)),some (.int .i64 (r:Int))] (by kernel_rfl) (by simp [xr,go_sem,f1.out,f2.out,m2,f3.out.1,f3.out.2]) ?_
  simp only [xw,p0,p1,p2,p3]
  clear m2
  go_upto_region 3 with (fail)
  refine wp_region_lit ?_
  have m3:w.cell? ⟨p,5,none⟩ = some (.int .i64 (ps:Int)):=hM.out.1 5 (by decide)
  have m4:w.cell? ⟨p,6,none⟩ = some (.int .i64 (sl:Int)):=hM.out.1 6 (by decide)
  refine xm [some (.pointer (some ⟨p,0,none⟩)),some (.pointer (some ⟨p,0,none⟩)),some (.pointer (some ⟨p,5,none⟩)),some (.int .i64 (ps:Int)),some (.bool true),some (.bool true),some (.pointer (some ⟨p,0,none⟩)),some (.pointer (some ⟨p,0,none⟩)),some (.pointer (some ⟨p,6,none⟩)),some (.int .i64 (sl:Int)),some (.bool false),some (.bool false)] (by kernel_rfl) (by simp [xr,go_sem,m3,a1.out,m4,a2.out]) ?_
  simp only [xw,p0,p1,p2,p3]
  clear m3
  clear m4
  go_upto_region 5 with (fail)
  refine wp_region_lit ?_
  have m5:w.cell? ⟨p,6,none⟩ = some (.int .i64 (sl:Int)):=hM.out.1 6 (by decide)
  refine xm [some (.pointer (some ⟨p,0,none⟩)),some (.pointer (some ⟨p,0,none⟩)),some (.pointer (some ⟨p,6,none⟩)),some (.int .i64 (sl:Int)),some (.int .i64 (s:Int)),some (.int .i64 (bs:Int)),some (.int .i64 (bs:Int))] (by kernel_rfl) (by simp [xr,go_sem,m5,f4.out]) ?_
  simp only [xw,p0,p1,p2,p3]
  clear m5
  go_upto_region 7 with (fail)
  refine wp_region_lit ?_
  have m6:w.cell? ⟨p,5,none⟩ = some (.int .i64 (ps:Int)):=hM.out.1 5 (by decide)
  refine xm [some (.pointer (some ⟨p,0,none⟩)),some (.pointer (some ⟨p,0,none⟩)),some (.pointer (some ⟨p,5,none⟩)),some (.int .i64 (ps:Int)),some (.bool false)] (by kernel_rfl) (by simp [xr,go_sem,m6,pp0.out]) ?_
  simp only [xw,p0,p1,p2,p3]
  clear m6
  go_upto_region 10 with (fail)
  refine wp_region_lit ?_
  have m7:w.cell? ⟨p,7,none⟩ = some (.int .i64 (ln:Int)):=hM.out.1 7 (by decide)
  refine xm [some (.int .i64 (r:Int)),some (.pointer (some ⟨p,0,none⟩)),some (.pointer (some ⟨p,0,none⟩)),some (.pointer (some ⟨p,7,none⟩)),some (.int .i64 (ln:Int)),some (.bool false)] (by kernel_rfl) (by simp [xr,go_sem,m7,a3.out]) ?_
  simp only [xw,p0,p1,p2,p3]
  clear m7
  go_upto_region 12 with (fail)
  refine wp_region_lit ?_
  have m8:w.cell? ⟨p,8,none⟩ = some (.int .i64 (k:Int)):=hM.out.1 8 (by decide)
  refine xm [some (.pointer (some ⟨p,0,none⟩)),some (.pointer (some ⟨p,0,none⟩)),some (.pointer (some ⟨p,8,none⟩)),some (.int .i64 (k:Int)),some (.bool true)] (by kernel_rfl) (by simp [xr,go_sem,m8,a4.out]) ?_
  simp only [xw,p0,p1,p2,p3]
  clear m8
  go_upto_region 13 with (fail)
  refine wp_region_lit ?_
  refine xm [some (.int .i64 (bs:Int)),some (.int .i64 (cn:Int)),some (.int .i64 (cn:Int))] (by kernel_rfl) (by simp [xr,go_sem,g2.out]) ?_
  simp only [xw,p0,p1,p2,p3]
  go_upto_region 14 with (fail)
  replace hM:=hideit hM.out.drew
  replace hE:=hideit (Ext.draw hE.out)
  refine wp_region_lad (fun X=>Ext w.drew X) [(false,0),(false,1),(false,2),(false,3),(false,4),(false,5),(false,6),(false,7),(false,8),(false,9),(false,12),(false,13),(false,14),(false,15),(true,10),(false,11),(false,16),(false,17),(false,18)] (by kernel_rfl) (by kernel_rfl) (by decide +kernel) (by decide +kernel) (by decide +kernel) (by decide +kernel) (Ext.refl _) ?_
  refine wpX_f _ (.pointer (some ⟨p,0,none⟩)) rfl rfl (fun X _=>by simp [go_sem]) ?_
  simp only [List.getElem_toArray,List.getElem_cons_zero,Act.put,List.setIfInBounds_toArray,List.set_cons_zero,List.set_cons_succ]
  refine wpX_f _ (.pointer (some ⟨p,0,none⟩)) rfl rfl (fun X _=>by simp [go_sem]) ?_
  simp only [jw,jz,kj,jk,jq,jv,jy]
  refine wpX_f _ (.pointer (some ⟨p,3,none⟩)) rfl rfl (fun X _=>by simp [go_sem]) ?_
  simp only [jw,jz,kj,jk,jq,jv,jy]
  refine wpX_f _ (.int .i64 (q:Int)) rfl rfl (fun X hX=>by have m9:X.cell? ⟨p,3,none⟩ = some (.int .i64 (q:Int)):=(hM.out.carry hX).1 3 (by decide); simp [go_sem,m9]) ?_
  simp only [jw,jz,kj,jk,jq,jv,jy]
  refine wpX_f _ (.int .i64 (r:Int)) rfl rfl (fun X _=>by simp [go_sem]) ?_
  simp only [jw,jz,kj,jk,jq,jv,jy]
  refine wpX_f _ (.int .i64 (o1:Int)) rfl rfl (fun X _=>by simp [go_sem,h1.out]) ?_
  simp only [jw,jz,kj,jk,jq,jv,jy]
  refine wpX_f _ (.int .i64 0) rfl rfl (fun X _=>by simp [go_sem]) ?_
  simp only [jw,jz,kj,jk,jq,jv,jy]
  refine wpX_f _ (.int .i64 (cn:Int)) rfl rfl (fun X _=>by simp [go_sem]) ?_
  simp only [jw,jz,kj,jk,jq,jv,jy]
  refine wpX_f _ (.int .u64 (x.toNat:Int)) rfl rfl (fun X _=>by simp [go_sem]) ?_
  simp only [jw,jz,kj,jk,jq,jv,jy]
  refine wpX_f _ (.int .u32 (y:Int)) rfl rfl (fun X _=>by simp [go_sem,h2.out]) ?_
  simp only [jw,jz,kj,jk,jq,jv,jy]
  refine wpX_f _ (.pointer (some ⟨p,0,none⟩)) rfl rfl (fun X _=>by simp [go_sem]) ?_
  simp only [jw,jz,kj,jk,jq,jv,jy]
  refine wpX_f _ (.pointer (some ⟨p,0,none⟩)) rfl rfl (fun X _=>by simp [go_sem]) ?_
  simp only [jw,jz,kj,jk,jq,jv,jy]
  refine wpX_f _ (.pointer (some ⟨p,3,none⟩)) rfl rfl (fun X _=>by simp [go_sem]) ?_
  simp only [jw,jz,kj,jk,jq,jv,jy]
  refine wpX_f _ (.int .i64 (q:Int)) rfl rfl (fun X hX=>by have m10:X.cell? ⟨p,3,none⟩ = some (.int .i64 (q:Int)):=(hM.out.carry hX).1 3 (by decide); simp [go_sem,m10]) ?_
  simp only [jw,jz,kj,jk,jq,jv,jy]
  refine wpX_call _ rfl rfl (by simp [go_sem]) ((rwhich_any (cn:Int) (y:Int) e1 e2 (by omega) e3 w.drew).mono ?_)
  rintro e e9 ⟨rfl,hw9⟩
  have hX9:Ext w.drew e9:=by rw [hw9]; exact Ext.refl _
  clear hw9
  refine ⟨_,rfl,fun X=>Ext e9 X,fun X hX=>Ext.trans hX9 hX,Ext.refl _,?_⟩
  simp only [jw,jz,kj,jk,jq,jv,jy]
  replace hM:=hideit (hM.out.carry hX9)
  replace hE:=hideit (Ext.trans hE.out hX9)
  rw [hw.out]
  clear hX9
  refine wpX_f _ (.int .i64 (sm:Int)) rfl rfl (fun X _=>by simp [go_sem,h3.out]) ?_
  simp only [jw,jz,kj,jk,jq,jv,jy]
  refine wpX_f _ (.int .i64 (ix:Int)) rfl rfl (fun X _=>by simp [go_sem,h4.out.1,h4.out.2]) ?_
  simp only [jw,jz,kj,jk,jq,jv,jy]
  refine wpX_f _ (.int .i64 (res:Int)) rfl rfl (fun X _=>by simp [go_sem,h5.out]) ?_
  simp only [jw,jz,kj,jk,jq,jv,jy]
  refine wpX_f _ (.int .i64 (res:Int)) rfl rfl (fun X _=>by simp [go_sem]) ?_
  simp only [jw,jz,kj,jk,jq,jv,jy]
  refine wpX_nil ?_
  go_wp2
  go_ret
  exact ⟨rfl,hE.out⟩
set_option maxRecDepth 20000 in
set_option maxHeartbeats 4000000 in
theorem roth_sl_else (p T M L q b c ps sl ln k s v r bs bs2 a m fs c1 cn o1 y wh sm ix res:Nat) (x:BitVec 64) (w:World) (hM:RowAt p 9 (rmV T M L q b c ps sl ln k) w) (a1:ps = 0) (a2:¬ sl = 0) (a3:¬ (r:Int) = (ln:Int)) (a4:¬ k = 0) (f0:Hid ((q:Int) / 4 = (s:Int) ∧ IntKind.i64.wrap (s:Int) = (s:Int))) (f1:Hid ((x.toNat:Int) / 4294967296 = (v:Int))) (f2:Hid (IntKind.i64.wrap (v:Int) = (v:Int))) (f3:Hid (¬ L = 0 ∧ (v:Int).tmod (L:Int) = (r:Int))) (f4:Hid (IntKind.i64.wrap ((sl:Int) * (s:Int)) = (bs:Int))) (h1:Hid (IntKind.i64.wrap ((q:Int) * (r:Int)) = (o1:Int))) (h2:Hid (IntKind.u32.wrap (x.toNat:Int) = (y:Int))) (hw:Hid (whI (bs:Int) (y:Int) = (wh:Int))) (h3:Hid (IntKind.i64.wrap (wh:Int) = (sm:Int))) (h4:Hid (¬ q = 0 ∧ (sm:Int).tmod (q:Int) = (ix:Int))) (h5:Hid (IntKind.i64.wrap ((o1:Int) + (ix:Int)) = (res:Int))) (e1:1 ≤ (bs:Int)) (e2:(bs:Int) ≤ 2147483647) (e3:(y:Int) ≤ 4294967295):Calls Tryd.prog 56 #[.pointer (some ⟨p,0,none⟩),.int .u64 (x.toNat:Int)] w fun e w'=>e = .returned (.int .i64 (res:Int)) ∧ Ext w w':=by
  have pp0:Hid (¬ 0 < ps):=by show ¬ _; omega
  replace a1:=hideit a1
  replace a2:=hideit a2
  replace a3:=hideit a3
  replace a4:=hideit a4
  have hE:=hideit (Ext.refl w)
  replace hM:=hideit hM
  go_enter Tryd.func56,Tryd.ntmps56
  go_upto_region 1 with (fail)
  refine wp_region_lit ?_
  have m1:w.cell? ⟨p,3,none⟩ = some (.int .i64 (q:Int)):=hM.out.1 3 (by decide)
  refine xm [some (.pointer (some ⟨p,0,none⟩)),some (.pointer (some ⟨p,0,none⟩)),some (.pointer (some ⟨p,3,none⟩)),some (.int .i64 (q:Int)),some (.int .i64 (s:Int)),some (.int .i64 (s:Int))] (by kernel_rfl) (by simp [xr,go_sem,m1,f0.out.1,f0.out.2]) ?_
  simp only [xw,p0,p1,p2,p3]
  clear m1
  go_upto_region 2 with (fail)
  refine wp_region_lit ?_
  have m2:w.cell? ⟨p,2,none⟩ = some (.int .i64 (L:Int)):=hM.out.1 2 (by decide)
  refine xm [some (.int .u64 (x.toNat:Int)),some (.int .u64 (v:Int)),some (.int .i64 (v:Int)),some (.pointer (some ⟨p,0,none⟩)),some (.pointer (some ⟨p,0,none⟩)),some (.pointer (some ⟨p,0,none⟩)),some (.pointer (some ⟨p,2,none⟩)),some (.int .i64 (L:Int)),some (.int .i64 (r:Int)),some (.int .i64 (r:Int))] (by kernel_rfl) (by simp [xr,go_sem,f1.out,f2.out,m2,f3.out.1,f3.out.2]) ?_
  simp only [xw,p0,p1,p2,p3]
  clear m2
  go_upto_region 3 with (fail)
  refine wp_region_lit ?_
  have m3:w.cell? ⟨p,5,none⟩ = some (.int .i64 (ps:Int)):=hM.out.1 5 (by decide)
  have m4:w.cell? ⟨p,6,none⟩ = some (.int .i64 (sl:Int)):=hM.out.1 6 (by decide)
  refine xm [some (.pointer (some ⟨p,0,none⟩)),some (.pointer (some ⟨p,0,none⟩)),some (.pointer (some ⟨p,5,none⟩)),some (.int .i64 (ps:Int)),some (.bool true),some (.bool true),some (.pointer (some ⟨p,0,none⟩)),some (.pointer (some ⟨p,0,none⟩)),some (.pointer (some ⟨p,6,none⟩)),some (.int .i64 (sl:Int)),some (.bool false),some (.bool false)] (by kernel_rfl) (by simp [xr,go_sem,m3,a1.out,m4,a2.out]) ?_
  simp only [xw,p0,p1,p2,p3]
  clear m3
  clear m4
  go_upto_region 5 with (fail)
  refine wp_region_lit ?_
  have m5:w.cell? ⟨p,6,none⟩ = some (.int .i64 (sl:Int)):=hM.out.1 6 (by decide)
  refine xm [some (.pointer (some ⟨p,0,none⟩)),some (.pointer (some ⟨p,0,none⟩)),some (.pointer (some ⟨p,6,none⟩)),some (.int .i64 (sl:Int)),some (.int .i64 (s:Int)),some (.int .i64 (bs:Int)),some (.int .i64 (bs:Int))] (by kernel_rfl) (by simp [xr,go_sem,m5,f4.out]) ?_
  simp only [xw,p0,p1,p2,p3]
  clear m5
  go_upto_region 7 with (fail)
  refine wp_region_lit ?_
  have m6:w.cell? ⟨p,5,none⟩ = some (.int .i64 (ps:Int)):=hM.out.1 5 (by decide)
  refine xm [some (.pointer (some ⟨p,0,none⟩)),some (.pointer (some ⟨p,0,none⟩)),some (.pointer (some ⟨p,5,none⟩)),some (.int .i64 (ps:Int)),some (.bool false)] (by kernel_rfl) (by simp [xr,go_sem,m6,pp0.out]) ?_
  simp only [xw,p0,p1,p2,p3]
  clear m6
  go_upto_region 10 with (fail)
  refine wp_region_lit ?_
  have m7:w.cell? ⟨p,7,none⟩ = some (.int .i64 (ln:Int)):=hM.out.1 7 (by decide)
  refine xm [some (.int .i64 (r:Int)),some (.pointer (some ⟨p,0,none⟩)),some (.pointer (some ⟨p,0,none⟩)),some (.pointer (some ⟨p,7,none⟩)),some (.int .i64 (ln:Int)),some (.bool false)] (by kernel_rfl) (by simp [xr,go_sem,m7,a3.out]) ?_
  simp only [xw,p0,p1,p2,p3]
  clear m7
  go_upto_region 12 with (fail)
  refine wp_region_lit ?_
  have m8:w.cell? ⟨p,8,none⟩ = some (.int .i64 (k:Int)):=hM.out.1 8 (by decide)
  refine xm [some (.pointer (some ⟨p,0,none⟩)),some (.pointer (some ⟨p,0,none⟩)),some (.pointer (some ⟨p,8,none⟩)),some (.int .i64 (k:Int)),some (.bool false)] (by kernel_rfl) (by simp [xr,go_sem,m8,a4.out]) ?_
  simp only [xw,p0,p1,p2,p3]
  clear m8
  go_upto_region 14 with (fail)
  replace hM:=hideit hM.out.drew
  replace hE:=hideit (Ext.draw hE.out)
  refine wp_region_lad (fun X=>Ext w.drew X) [(false,0),(false,1),(false,2),(false,3),(false,4),(false,5),(false,6),(false,7),(false,8),(false,9),(false,12),(false,13),(false,14),(false,15),(true,10),(false,11),(false,16),(false,17),(false,18)] (by kernel_rfl) (by kernel_rfl) (by decide +kernel) (by decide +kernel) (by decide +kernel) (by decide +kernel) (Ext.refl _) ?_
  refine wpX_f _ (.pointer (some ⟨p,0,none⟩)) rfl rfl (fun X _=>by simp [go_sem]) ?_
  simp only [List.getElem_toArray,List.getElem_cons_zero,Act.put,List.setIfInBounds_toArray,List.set_cons_zero,List.set_cons_succ]
  refine wpX_f _ (.pointer (some ⟨p,0,none⟩)) rfl rfl (fun X _=>by simp [go_sem]) ?_
  simp only [jw,jz,kj,jk,jq,jv,jy]
  refine wpX_f _ (.pointer (some ⟨p,3,none⟩)) rfl rfl (fun X _=>by simp [go_sem]) ?_
  simp only [jw,jz,kj,jk,jq,jv,jy]
  refine wpX_f _ (.int .i64 (q:Int)) rfl rfl (fun X hX=>by have m9:X.cell? ⟨p,3,none⟩ = some (.int .i64 (q:Int)):=(hM.out.carry hX).1 3 (by decide); simp [go_sem,m9]) ?_
  simp only [jw,jz,kj,jk,jq,jv,jy]
  refine wpX_f _ (.int .i64 (r:Int)) rfl rfl (fun X _=>by simp [go_sem]) ?_
  simp only [jw,jz,kj,jk,jq,jv,jy]
  refine wpX_f _ (.int .i64 (o1:Int)) rfl rfl (fun X _=>by simp [go_sem,h1.out]) ?_
  simp only [jw,jz,kj,jk,jq,jv,jy]
  refine wpX_f _ (.int .i64 0) rfl rfl (fun X _=>by simp [go_sem]) ?_
  simp only [jw,jz,kj,jk,jq,jv,jy]
  refine wpX_f _ (.int .i64 (bs:Int)) rfl rfl (fun X _=>by simp [go_sem]) ?_
  simp only [jw,jz,kj,jk,jq,jv,jy]
  refine wpX_f _ (.int .u64 (x.toNat:Int)) rfl rfl (fun X _=>by simp [go_sem]) ?_
  simp only [jw,jz,kj,jk,jq,jv,jy]
  refine wpX_f _ (.int .u32 (y:Int)) rfl rfl (fun X _=>by simp [go_sem,h2.out]) ?_
  simp only [jw,jz,kj,jk,jq,jv,jy]
  refine wpX_f _ (.pointer (some ⟨p,0,none⟩)) rfl rfl (fun X _=>by simp [go_sem]) ?_
  simp only [jw,jz,kj,jk,jq,jv,jy]
  refine wpX_f _ (.pointer (some ⟨p,0,none⟩)) rfl rfl (fun X _=>by simp [go_sem]) ?_
  simp only [jw,jz,kj,jk,jq,jv,jy]
  refine wpX_f _ (.pointer (some ⟨p,3,none⟩)) rfl rfl (fun X _=>by simp [go_sem]) ?_
  simp only [jw,jz,kj,jk,jq,jv,jy]
  refine wpX_f _ (.int .i64 (q:Int)) rfl rfl (fun X hX=>by have m10:X.cell? ⟨p,3,none⟩ = some (.int .i64 (q:Int)):=(hM.out.carry hX).1 3 (by decide); simp [go_sem,m10]) ?_
  simp only [jw,jz,kj,jk,jq,jv,jy]
  refine wpX_call _ rfl rfl (by simp [go_sem]) ((rwhich_any (bs:Int) (y:Int) e1 e2 (by omega) e3 w.drew).mono ?_)
  rintro e e9 ⟨rfl,hw9⟩
  have hX9:Ext w.drew e9:=by rw [hw9]; exact Ext.refl _
  clear hw9
  refine ⟨_,rfl,fun X=>Ext e9 X,fun X hX=>Ext.trans hX9 hX,Ext.refl _,?_⟩
  simp only [jw,jz,kj,jk,jq,jv,jy]
  replace hM:=hideit (hM.out.carry hX9)
  replace hE:=hideit (Ext.trans hE.out hX9)
  rw [hw.out]
  clear hX9
  refine wpX_f _ (.int .i64 (sm:Int)) rfl rfl (fun X _=>by simp [go_sem,h3.out]) ?_
  simp only [jw,jz,kj,jk,jq,jv,jy]
  refine wpX_f _ (.int .i64 (ix:Int)) rfl rfl (fun X _=>by simp [go_sem,h4.out.1,h4.out.2]) ?_
  simp only [jw,jz,kj,jk,jq,jv,jy]
  refine wpX_f _ (.int .i64 (res:Int)) rfl rfl (fun X _=>by simp [go_sem,h5.out]) ?_
  simp only [jw,jz,kj,jk,jq,jv,jy]
  refine wpX_f _ (.int .i64 (res:Int)) rfl rfl (fun X _=>by simp [go_sem]) ?_
  simp only [jw,jz,kj,jk,jq,jv,jy]
  refine wpX_nil ?_
  go_wp2
  go_ret
  exact ⟨rfl,hE.out⟩
set_option maxRecDepth 20000 in
set_option maxHeartbeats 4000000 in
theorem roth_ps_same (p T M L q b c ps sl ln k s v r bs bs2 a m fs c1 cn o1 y wh sm ix res:Nat) (x:BitVec 64) (w:World) (hM:RowAt p 9 (rmV T M L q b c ps sl ln k) w) (a1:¬ ps = 0) (a3:(r:Int) = (ln:Int)) (f0:Hid ((q:Int) / 4 = (s:Int) ∧ IntKind.i64.wrap (s:Int) = (s:Int))) (f1:Hid ((x.toNat:Int) / 4294967296 = (v:Int))) (f2:Hid (IntKind.i64.wrap (v:Int) = (v:Int))) (f3:Hid (¬ L = 0 ∧ (v:Int).tmod (L:Int) = (r:Int))) (f4:Hid (IntKind.i64.wrap ((sl:Int) * (s:Int)) = (bs:Int))) (f5:Hid (IntKind.i64.wrap ((q:Int) - (s:Int)) = (bs2:Int))) (f6:Hid (IntKind.i64.wrap ((sl:Int) + 1) = (a:Int))) (f7:Hid ((a:Int).tmod 4 = (m:Int))) (f8:Hid (IntKind.i64.wrap ((m:Int) * (s:Int)) = (fs:Int))) (g1:Hid (IntKind.i64.wrap ((bs2:Int) + (k:Int)) = (c1:Int))) (g2:Hid (IntKind.i64.wrap ((c1:Int) - 1) = (cn:Int))) (h1:Hid (IntKind.i64.wrap ((q:Int) * (r:Int)) = (o1:Int))) (h2:Hid (IntKind.u32.wrap (x.toNat:Int) = (y:Int))) (hw:Hid (whI (cn:Int) (y:Int) = (wh:Int))) (h3:Hid (IntKind.i64.wrap ((fs:Int) + (wh:Int)) = (sm:Int))) (h4:Hid (¬ q = 0 ∧ (sm:Int).tmod (q:Int) = (ix:Int))) (h5:Hid (IntKind.i64.wrap ((o1:Int) + (ix:Int)) = (res:Int))) (e1:1 ≤ (cn:Int)) (e2:(cn:Int) ≤ 2147483647) (e3:(y:Int) ≤ 4294967295):Calls Tryd.prog 56 #[.pointer (some ⟨p,0,none⟩),.int .u64 (x.toNat:Int)] w fun e w'=>e = .returned (.int .i64 (res:Int)) ∧ Ext w w':=by
  have pp0:Hid (0 < ps):=by show _ < _; omega
  replace a1:=hideit a1
  replace a3:=hideit a3
  have hE:=hideit (Ext.refl w)
  replace hM:=hideit hM
  go_enter Tryd.func56,Tryd.ntmps56
  go_upto_region 1 with (fail)
  refine wp_region_lit ?_
  have m1:w.cell? ⟨p,3,none⟩ = some (.int .i64 (q:Int)):=hM.out.1 3 (by decide)
  refine xm [some (.pointer (some ⟨p,0,none⟩)),some (.pointer (some ⟨p,0,none⟩)),some (.pointer (some ⟨p,3,none⟩)),some (.int .i64 (q:Int)),some (.int .i64 (s:Int)),some (.int .i64 (s:Int))] (by kernel_rfl) (by simp [xr,go_sem,m1,f0.out.1,f0.out.2]) ?_
  simp only [xw,p0,p1,p2,p3]
  clear m1
  go_upto_region 2 with (fail)
  refine wp_region_lit ?_
  have m2:w.cell? ⟨p,2,none⟩ = some (.int .i64 (L:Int)):=hM.out.1 2 (by decide)
  refine xm [some (.int .u64 (x.toNat:Int)),some (.int .u64 (v:Int)),some (.int .i64 (v:Int)),some (.pointer (some ⟨p,0,none⟩)),some (.pointer (some ⟨p,0,none⟩)),some (.pointer (some ⟨p,0,none⟩)),some (.pointer (some ⟨p,2,none⟩)),some (.int .i64 (L:Int)),some (.int .i64 (r:Int)),some (.int .i64 (r:Int))] (by kernel_rfl) (by simp [xr,go_sem,f1.out,f2.out,m2,f3.out.1,f3.out.2]) ?_
  simp only [xw,p0,p1,p2,p3]
  clear m2
  go_upto_region 3 with (fail)
  refine wp_region_lit ?_
  have m3:w.cell? ⟨p,5,none⟩ = some (.int .i64 (ps:Int)):=hM.out.1 5 (by decide)
  refine xm [some (.pointer (some ⟨p,0,none⟩)),some (.pointer (some ⟨p,0,none⟩)),some (.pointer (some ⟨p,5,none⟩)),some (.int .i64 (ps:Int)),some (.bool false),some (.bool false),none,none,none,none,none,some (.bool false)] (by kernel_rfl) (by simp [xr,go_sem,m3,a1.out]) ?_
  simp only [xw,p0,p1,p2,p3]
  clear m3
  go_upto_region 5 with (fail)
  refine wp_region_lit ?_
  have m4:w.cell? ⟨p,6,none⟩ = some (.int .i64 (sl:Int)):=hM.out.1 6 (by decide)
  refine xm [some (.pointer (some ⟨p,0,none⟩)),some (.pointer (some ⟨p,0,none⟩)),some (.pointer (some ⟨p,6,none⟩)),some (.int .i64 (sl:Int)),some (.int .i64 (s:Int)),some (.int .i64 (bs:Int)),some (.int .i64 (bs:Int))] (by kernel_rfl) (by simp [xr,go_sem,m4,f4.out]) ?_
  simp only [xw,p0,p1,p2,p3]
  clear m4
  go_upto_region 7 with (fail)
  refine wp_region_lit ?_
  have m5:w.cell? ⟨p,5,none⟩ = some (.int .i64 (ps:Int)):=hM.out.1 5 (by decide)
  refine xm [some (.pointer (some ⟨p,0,none⟩)),some (.pointer (some ⟨p,0,none⟩)),some (.pointer (some ⟨p,5,none⟩)),some (.int .i64 (ps:Int)),some (.bool true)] (by kernel_rfl) (by simp [xr,go_sem,m5,pp0.out]) ?_
  simp only [xw,p0,p1,p2,p3]
  clear m5
  go_upto_region 8 with (fail)
  refine wp_region_lit ?_
  have m6:w.cell? ⟨p,3,none⟩ = some (.int .i64 (q:Int)):=hM.out.1 3 (by decide)
  refine xm [some (.pointer (some ⟨p,0,none⟩)),some (.pointer (some ⟨p,0,none⟩)),some (.pointer (some ⟨p,3,none⟩)),some (.int .i64 (q:Int)),some (.int .i64 (s:Int)),some (.int .i64 (bs2:Int)),some (.int .i64 (bs2:Int))] (by kernel_rfl) (by simp [xr,go_sem,m6,f5.out]) ?_
  simp only [xw,p0,p1,p2,p3]
  clear m6
  go_upto_region 9 with (fail)
  refine wp_region_lit ?_
  have m7:w.cell? ⟨p,6,none⟩ = some (.int .i64 (sl:Int)):=hM.out.1 6 (by decide)
  refine xm [some (.pointer (some ⟨p,0,none⟩)),some (.pointer (some ⟨p,0,none⟩)),some (.pointer (some ⟨p,6,none⟩)),some (.int .i64 (sl:Int)),some (.int .i64 (a:Int)),some (.int .i64 (m:Int)),some (.int .i64 (s:Int)),some (.int .i64 (fs:Int)),some (.int .i64 (fs:Int))] (by kernel_rfl) (by simp [xr,go_sem,m7,f6.out,f7.out,f8.out]) ?_
  simp only [xw,p0,p1,p2,p3]
  clear m7
  go_upto_region 10 with (fail)
  refine wp_region_lit ?_
  have m8:w.cell? ⟨p,7,none⟩ = some (.int .i64 (ln:Int)):=hM.out.1 7 (by decide)
  refine xm [some (.int .i64 (r:Int)),some (.pointer (some ⟨p,0,none⟩)),some (.pointer (some ⟨p,0,none⟩)),some (.pointer (some ⟨p,7,none⟩)),some (.int .i64 (ln:Int)),some (.bool true)] (by kernel_rfl) (by simp [xr,go_sem,m8,a3.out]) ?_
  simp only [xw,p0,p1,p2,p3]
  clear m8
  go_upto_region 11 with (fail)
  refine wp_region_lit ?_
  have m9:w.cell? ⟨p,8,none⟩ = some (.int .i64 (k:Int)):=hM.out.1 8 (by decide)
  refine xm [some (.int .i64 (bs2:Int)),some (.pointer (some ⟨p,0,none⟩)),some (.pointer (some ⟨p,0,none⟩)),some (.pointer (some ⟨p,8,none⟩)),some (.int .i64 (k:Int)),some (.int .i64 (c1:Int)),some (.int .i64 (cn:Int)),some (.int .i64 (cn:Int))] (by kernel_rfl) (by simp [xr,go_sem,m9,g1.out,g2.out]) ?_
  simp only [xw,p0,p1,p2,p3]
  clear m9
  go_upto_region 14 with (fail)
  replace hM:=hideit hM.out.drew
  replace hE:=hideit (Ext.draw hE.out)
  refine wp_region_lad (fun X=>Ext w.drew X) [(false,0),(false,1),(false,2),(false,3),(false,4),(false,5),(false,6),(false,7),(false,8),(false,9),(false,12),(false,13),(false,14),(false,15),(true,10),(false,11),(false,16),(false,17),(false,18)] (by kernel_rfl) (by kernel_rfl) (by decide +kernel) (by decide +kernel) (by decide +kernel) (by decide +kernel) (Ext.refl _) ?_
  refine wpX_f _ (.pointer (some ⟨p,0,none⟩)) rfl rfl (fun X _=>by simp [go_sem]) ?_
  simp only [List.getElem_toArray,List.getElem_cons_zero,Act.put,List.setIfInBounds_toArray,List.set_cons_zero,List.set_cons_succ]
  refine wpX_f _ (.pointer (some ⟨p,0,none⟩)) rfl rfl (fun X _=>by simp [go_sem]) ?_
  simp only [jw,jz,kj,jk,jq,jv,jy]
  refine wpX_f _ (.pointer (some ⟨p,3,none⟩)) rfl rfl (fun X _=>by simp [go_sem]) ?_
  simp only [jw,jz,kj,jk,jq,jv,jy]
  refine wpX_f _ (.int .i64 (q:Int)) rfl rfl (fun X hX=>by have m10:X.cell? ⟨p,3,none⟩ = some (.int .i64 (q:Int)):=(hM.out.carry hX).1 3 (by decide); simp [go_sem,m10]) ?_
  simp only [jw,jz,kj,jk,jq,jv,jy]
  refine wpX_f _ (.int .i64 (r:Int)) rfl rfl (fun X _=>by simp [go_sem]) ?_
  simp only [jw,jz,kj,jk,jq,jv,jy]
  refine wpX_f _ (.int .i64 (o1:Int)) rfl rfl (fun X _=>by simp [go_sem,h1.out]) ?_
  simp only [jw,jz,kj,jk,jq,jv,jy]
  refine wpX_f _ (.int .i64 (fs:Int)) rfl rfl (fun X _=>by simp [go_sem]) ?_
  simp only [jw,jz,kj,jk,jq,jv,jy]
  refine wpX_f _ (.int .i64 (cn:Int)) rfl rfl (fun X _=>by simp [go_sem]) ?_
  simp only [jw,jz,kj,jk,jq,jv,jy]
  refine wpX_f _ (.int .u64 (x.toNat:Int)) rfl rfl (fun X _=>by simp [go_sem]) ?_
  simp only [jw,jz,kj,jk,jq,jv,jy]
  refine wpX_f _ (.int .u32 (y:Int)) rfl rfl (fun X _=>by simp [go_sem,h2.out]) ?_
  simp only [jw,jz,kj,jk,jq,jv,jy]
  refine wpX_f _ (.pointer (some ⟨p,0,none⟩)) rfl rfl (fun X _=>by simp [go_sem]) ?_
  simp only [jw,jz,kj,jk,jq,jv,jy]
  refine wpX_f _ (.pointer (some ⟨p,0,none⟩)) rfl rfl (fun X _=>by simp [go_sem]) ?_
  simp only [jw,jz,kj,jk,jq,jv,jy]
  refine wpX_f _ (.pointer (some ⟨p,3,none⟩)) rfl rfl (fun X _=>by simp [go_sem]) ?_
  simp only [jw,jz,kj,jk,jq,jv,jy]
  refine wpX_f _ (.int .i64 (q:Int)) rfl rfl (fun X hX=>by have m11:X.cell? ⟨p,3,none⟩ = some (.int .i64 (q:Int)):=(hM.out.carry hX).1 3 (by decide); simp [go_sem,m11]) ?_
  simp only [jw,jz,kj,jk,jq,jv,jy]
  refine wpX_call _ rfl rfl (by simp [go_sem]) ((rwhich_any (cn:Int) (y:Int) e1 e2 (by omega) e3 w.drew).mono ?_)
  rintro e e9 ⟨rfl,hw9⟩
  have hX9:Ext w.drew e9:=by rw [hw9]; exact Ext.refl _
  clear hw9
  refine ⟨_,rfl,fun X=>Ext e9 X,fun X hX=>Ext.trans hX9 hX,Ext.refl _,?_⟩
  simp only [jw,jz,kj,jk,jq,jv,jy]
  replace hM:=hideit (hM.out.carry hX9)
  replace hE:=hideit (Ext.trans hE.out hX9)
  rw [hw.out]
  clear hX9
  refine wpX_f _ (.int .i64 (sm:Int)) rfl rfl (fun X _=>by simp [go_sem,h3.out]) ?_
  simp only [jw,jz,kj,jk,jq,jv,jy]
  refine wpX_f _ (.int .i64 (ix:Int)) rfl rfl (fun X _=>by simp [go_sem,h4.out.1,h4.out.2]) ?_
  simp only [jw,jz,kj,jk,jq,jv,jy]
  refine wpX_f _ (.int .i64 (res:Int)) rfl rfl (fun X _=>by simp [go_sem,h5.out]) ?_
  simp only [jw,jz,kj,jk,jq,jv,jy]
  refine wpX_f _ (.int .i64 (res:Int)) rfl rfl (fun X _=>by simp [go_sem]) ?_
  simp only [jw,jz,kj,jk,jq,jv,jy]
  refine wpX_nil ?_
  go_wp2
  go_ret
  exact ⟨rfl,hE.out⟩
set_option maxRecDepth 20000 in
set_option maxHeartbeats 4000000 in
theorem roth_ps_zero (p T M L q b c ps sl ln k s v r bs bs2 a m fs c1 cn o1 y wh sm ix res:Nat) (x:BitVec 64) (w:World) (hM:RowAt p 9 (rmV T M L q b c ps sl ln k) w) (a1:¬ ps = 0) (a3:¬ (r:Int) = (ln:Int)) (a4:k = 0) (f0:Hid ((q:Int) / 4 = (s:Int) ∧ IntKind.i64.wrap (s:Int) = (s:Int))) (f1:Hid ((x.toNat:Int) / 4294967296 = (v:Int))) (f2:Hid (IntKind.i64.wrap (v:Int) = (v:Int))) (f3:Hid (¬ L = 0 ∧ (v:Int).tmod (L:Int) = (r:Int))) (f4:Hid (IntKind.i64.wrap ((sl:Int) * (s:Int)) = (bs:Int))) (f5:Hid (IntKind.i64.wrap ((q:Int) - (s:Int)) = (bs2:Int))) (f6:Hid (IntKind.i64.wrap ((sl:Int) + 1) = (a:Int))) (f7:Hid ((a:Int).tmod 4 = (m:Int))) (f8:Hid (IntKind.i64.wrap ((m:Int) * (s:Int)) = (fs:Int))) (g2:Hid (IntKind.i64.wrap ((bs2:Int) - 1) = (cn:Int))) (h1:Hid (IntKind.i64.wrap ((q:Int) * (r:Int)) = (o1:Int))) (h2:Hid (IntKind.u32.wrap (x.toNat:Int) = (y:Int))) (hw:Hid (whI (cn:Int) (y:Int) = (wh:Int))) (h3:Hid (IntKind.i64.wrap ((fs:Int) + (wh:Int)) = (sm:Int))) (h4:Hid (¬ q = 0 ∧ (sm:Int).tmod (q:Int) = (ix:Int))) (h5:Hid (IntKind.i64.wrap ((o1:Int) + (ix:Int)) = (res:Int))) (e1:1 ≤ (cn:Int)) (e2:(cn:Int) ≤ 2147483647) (e3:(y:Int) ≤ 4294967295):Calls Tryd.prog 56 #[.pointer (some ⟨p,0,none⟩),.int .u64 (x.toNat:Int)] w fun e w'=>e = .returned (.int .i64 (res:Int)) ∧ Ext w w':=by
  have pp0:Hid (0 < ps):=by show _ < _; omega
  replace a1:=hideit a1
  replace a3:=hideit a3
  replace a4:=hideit a4
  have hE:=hideit (Ext.refl w)
  replace hM:=hideit hM
  go_enter Tryd.func56,Tryd.ntmps56
  go_upto_region 1 with (fail)
  refine wp_region_lit ?_
  have m1:w.cell? ⟨p,3,none⟩ = some (.int .i64 (q:Int)):=hM.out.1 3 (by decide)
  refine xm [some (.pointer (some ⟨p,0,none⟩)),some (.pointer (some ⟨p,0,none⟩)),some (.pointer (some ⟨p,3,none⟩)),some (.int .i64 (q:Int)),some (.int .i64 (s:Int)),some (.int .i64 (s:Int))] (by kernel_rfl) (by simp [xr,go_sem,m1,f0.out.1,f0.out.2]) ?_
  simp only [xw,p0,p1,p2,p3]
  clear m1
  go_upto_region 2 with (fail)
  refine wp_region_lit ?_
  have m2:w.cell? ⟨p,2,none⟩ = some (.int .i64 (L:Int)):=hM.out.1 2 (by decide)
  refine xm [some (.int .u64 (x.toNat:Int)),some (.int .u64 (v:Int)),some (.int .i64 (v:Int)),some (.pointer (some ⟨p,0,none⟩)),some (.pointer (some ⟨p,0,none⟩)),some (.pointer (some ⟨p,0,none⟩)),some (.pointer (some ⟨p,2,none⟩)),some (.int .i64 (L:Int)),some (.int .i64 (r:Int)),some (.int .i64 (r:Int))] (by kernel_rfl) (by simp [xr,go_sem,f1.out,f2.out,m2,f3.out.1,f3.out.2]) ?_
  simp only [xw,p0,p1,p2,p3]
  clear m2
  go_upto_region 3 with (fail)
  refine wp_region_lit ?_
  have m3:w.cell? ⟨p,5,none⟩ = some (.int .i64 (ps:Int)):=hM.out.1 5 (by decide)
  refine xm [some (.pointer (some ⟨p,0,none⟩)),some (.pointer (some ⟨p,0,none⟩)),some (.pointer (some ⟨p,5,none⟩)),some (.int .i64 (ps:Int)),some (.bool false),some (.bool false),none,none,none,none,none,some (.bool false)] (by kernel_rfl) (by simp [xr,go_sem,m3,a1.out]) ?_
  simp only [xw,p0,p1,p2,p3]
  clear m3
  go_upto_region 5 with (fail)
  refine wp_region_lit ?_
  have m4:w.cell? ⟨p,6,none⟩ = some (.int .i64 (sl:Int)):=hM.out.1 6 (by decide)
  refine xm [some (.pointer (some ⟨p,0,none⟩)),some (.pointer (some ⟨p,0,none⟩)),some (.pointer (some ⟨p,6,none⟩)),some (.int .i64 (sl:Int)),some (.int .i64 (s:Int)),some (.int .i64 (bs:Int)),some (.int .i64 (bs:Int))] (by kernel_rfl) (by simp [xr,go_sem,m4,f4.out]) ?_
  simp only [xw,p0,p1,p2,p3]
  clear m4
  go_upto_region 7 with (fail)
  refine wp_region_lit ?_
  have m5:w.cell? ⟨p,5,none⟩ = some (.int .i64 (ps:Int)):=hM.out.1 5 (by decide)
  refine xm [some (.pointer (some ⟨p,0,none⟩)),some (.pointer (some ⟨p,0,none⟩)),some (.pointer (some ⟨p,5,none⟩)),some (.int .i64 (ps:Int)),some (.bool true)] (by kernel_rfl) (by simp [xr,go_sem,m5,pp0.out]) ?_
  simp only [xw,p0,p1,p2,p3]
  clear m5
  go_upto_region 8 with (fail)
  refine wp_region_lit ?_
  have m6:w.cell? ⟨p,3,none⟩ = some (.int .i64 (q:Int)):=hM.out.1 3 (by decide)
  refine xm [some (.pointer (some ⟨p,0,none⟩)),some (.pointer (some ⟨p,0,none⟩)),some (.pointer (some ⟨p,3,none⟩)),some (.int .i64 (q:Int)),some (.int .i64 (s:Int)),some (.int .i64 (bs2:Int)),some (.int .i64 (bs2:Int))] (by kernel_rfl) (by simp [xr,go_sem,m6,f5.out]) ?_
  simp only [xw,p0,p1,p2,p3]
  clear m6
  go_upto_region 9 with (fail)
  refine wp_region_lit ?_
  have m7:w.cell? ⟨p,6,none⟩ = some (.int .i64 (sl:Int)):=hM.out.1 6 (by decide)
  refine xm [some (.pointer (some ⟨p,0,none⟩)),some (.pointer (some ⟨p,0,none⟩)),some (.pointer (some ⟨p,6,none⟩)),some (.int .i64 (sl:Int)),some (.int .i64 (a:Int)),some (.int .i64 (m:Int)),some (.int .i64 (s:Int)),some (.int .i64 (fs:Int)),some (.int .i64 (fs:Int))] (by kernel_rfl) (by simp [xr,go_sem,m7,f6.out,f7.out,f8.out]) ?_
  simp only [xw,p0,p1,p2,p3]
  clear m7
  go_upto_region 10 with (fail)
  refine wp_region_lit ?_
  have m8:w.cell? ⟨p,7,none⟩ = some (.int .i64 (ln:Int)):=hM.out.1 7 (by decide)
  refine xm [some (.int .i64 (r:Int)),some (.pointer (some ⟨p,0,none⟩)),some (.pointer (some ⟨p,0,none⟩)),some (.pointer (some ⟨p,7,none⟩)),some (.int .i64 (ln:Int)),some (.bool false)] (by kernel_rfl) (by simp [xr,go_sem,m8,a3.out]) ?_
  simp only [xw,p0,p1,p2,p3]
  clear m8
  go_upto_region 12 with (fail)
  refine wp_region_lit ?_
  have m9:w.cell? ⟨p,8,none⟩ = some (.int .i64 (k:Int)):=hM.out.1 8 (by decide)
  refine xm [some (.pointer (some ⟨p,0,none⟩)),some (.pointer (some ⟨p,0,none⟩)),some (.pointer (some ⟨p,8,none⟩)),some (.int .i64 (k:Int)),some (.bool true)] (by kernel_rfl) (by simp [xr,go_sem,m9,a4.out]) ?_
  simp only [xw,p0,p1,p2,p3]
  clear m9
  go_upto_region 13 with (fail)
  refine wp_region_lit ?_
  refine xm [some (.int .i64 (bs2:Int)),some (.int .i64 (cn:Int)),some (.int .i64 (cn:Int))] (by kernel_rfl) (by simp [xr,go_sem,g2.out]) ?_
  simp only [xw,p0,p1,p2,p3]
  go_upto_region 14 with (fail)
  replace hM:=hideit hM.out.drew
  replace hE:=hideit (Ext.draw hE.out)
  refine wp_region_lad (fun X=>Ext w.drew X) [(false,0),(false,1),(false,2),(false,3),(false,4),(false,5),(false,6),(false,7),(false,8),(false,9),(false,12),(false,13),(false,14),(false,15),(true,10),(false,11),(false,16),(false,17),(false,18)] (by kernel_rfl) (by kernel_rfl) (by decide +kernel) (by decide +kernel) (by decide +kernel) (by decide +kernel) (Ext.refl _) ?_
  refine wpX_f _ (.pointer (some ⟨p,0,none⟩)) rfl rfl (fun X _=>by simp [go_sem]) ?_
  simp only [List.getElem_toArray,List.getElem_cons_zero,Act.put,List.setIfInBounds_toArray,List.set_cons_zero,List.set_cons_succ]
  refine wpX_f _ (.pointer (some ⟨p,0,none⟩)) rfl rfl (fun X _=>by simp [go_sem]) ?_
  simp only [jw,jz,kj,jk,jq,jv,jy]
  refine wpX_f _ (.pointer (some ⟨p,3,none⟩)) rfl rfl (fun X _=>by simp [go_sem]) ?_
  simp only [jw,jz,kj,jk,jq,jv,jy]
  refine wpX_f _ (.int .i64 (q:Int)) rfl rfl (fun X hX=>by have m10:X.cell? ⟨p,3,none⟩ = some (.int .i64 (q:Int)):=(hM.out.carry hX).1 3 (by decide); simp [go_sem,m10]) ?_
  simp only [jw,jz,kj,jk,jq,jv,jy]
  refine wpX_f _ (.int .i64 (r:Int)) rfl rfl (fun X _=>by simp [go_sem]) ?_
  simp only [jw,jz,kj,jk,jq,jv,jy]
  refine wpX_f _ (.int .i64 (o1:Int)) rfl rfl (fun X _=>by simp [go_sem,h1.out]) ?_
  simp only [jw,jz,kj,jk,jq,jv,jy]
  refine wpX_f _ (.int .i64 (fs:Int)) rfl rfl (fun X _=>by simp [go_sem]) ?_
  simp only [jw,jz,kj,jk,jq,jv,jy]
  refine wpX_f _ (.int .i64 (cn:Int)) rfl rfl (fun X _=>by simp [go_sem]) ?_
  simp only [jw,jz,kj,jk,jq,jv,jy]
  refine wpX_f _ (.int .u64 (x.toNat:Int)) rfl rfl (fun X _=>by simp [go_sem]) ?_
  simp only [jw,jz,kj,jk,jq,jv,jy]
  refine wpX_f _ (.int .u32 (y:Int)) rfl rfl (fun X _=>by simp [go_sem,h2.out]) ?_
  simp only [jw,jz,kj,jk,jq,jv,jy]
  refine wpX_f _ (.pointer (some ⟨p,0,none⟩)) rfl rfl (fun X _=>by simp [go_sem]) ?_
  simp only [jw,jz,kj,jk,jq,jv,jy]
  refine wpX_f _ (.pointer (some ⟨p,0,none⟩)) rfl rfl (fun X _=>by simp [go_sem]) ?_
  simp only [jw,jz,kj,jk,jq,jv,jy]
  refine wpX_f _ (.pointer (some ⟨p,3,none⟩)) rfl rfl (fun X _=>by simp [go_sem]) ?_
  simp only [jw,jz,kj,jk,jq,jv,jy]
  refine wpX_f _ (.int .i64 (q:Int)) rfl rfl (fun X hX=>by have m11:X.cell? ⟨p,3,none⟩ = some (.int .i64 (q:Int)):=(hM.out.carry hX).1 3 (by decide); simp [go_sem,m11]) ?_
  simp only [jw,jz,kj,jk,jq,jv,jy]
  refine wpX_call _ rfl rfl (by simp [go_sem]) ((rwhich_any (cn:Int) (y:Int) e1 e2 (by omega) e3 w.drew).mono ?_)
  rintro e e9 ⟨rfl,hw9⟩
  have hX9:Ext w.drew e9:=by rw [hw9]; exact Ext.refl _
  clear hw9
  refine ⟨_,rfl,fun X=>Ext e9 X,fun X hX=>Ext.trans hX9 hX,Ext.refl _,?_⟩
  simp only [jw,jz,kj,jk,jq,jv,jy]
  replace hM:=hideit (hM.out.carry hX9)
  replace hE:=hideit (Ext.trans hE.out hX9)
  rw [hw.out]
  clear hX9
  refine wpX_f _ (.int .i64 (sm:Int)) rfl rfl (fun X _=>by simp [go_sem,h3.out]) ?_
  simp only [jw,jz,kj,jk,jq,jv,jy]
  refine wpX_f _ (.int .i64 (ix:Int)) rfl rfl (fun X _=>by simp [go_sem,h4.out.1,h4.out.2]) ?_
  simp only [jw,jz,kj,jk,jq,jv,jy]
  refine wpX_f _ (.int .i64 (res:Int)) rfl rfl (fun X _=>by simp [go_sem,h5.out]) ?_
  simp only [jw,jz,kj,jk,jq,jv,jy]
  refine wpX_f _ (.int .i64 (res:Int)) rfl rfl (fun X _=>by simp [go_sem]) ?_
  simp only [jw,jz,kj,jk,jq,jv,jy]
  refine wpX_nil ?_
  go_wp2
  go_ret
  exact ⟨rfl,hE.out⟩
set_option maxRecDepth 20000 in
set_option maxHeartbeats 4000000 in
theorem roth_ps_else (p T M L q b c ps sl ln k s v r bs bs2 a m fs c1 cn o1 y wh sm ix res:Nat) (x:BitVec 64) (w:World) (hM:RowAt p 9 (rmV T M L q b c ps sl ln k) w) (a1:¬ ps = 0) (a3:¬ (r:Int) = (ln:Int)) (a4:¬ k = 0) (f0:Hid ((q:Int) / 4 = (s:Int) ∧ IntKind.i64.wrap (s:Int) = (s:Int))) (f1:Hid ((x.toNat:Int) / 4294967296 = (v:Int))) (f2:Hid (IntKind.i64.wrap (v:Int) = (v:Int))) (f3:Hid (¬ L = 0 ∧ (v:Int).tmod (L:Int) = (r:Int))) (f4:Hid (IntKind.i64.wrap ((sl:Int) * (s:Int)) = (bs:Int))) (f5:Hid (IntKind.i64.wrap ((q:Int) - (s:Int)) = (bs2:Int))) (f6:Hid (IntKind.i64.wrap ((sl:Int) + 1) = (a:Int))) (f7:Hid ((a:Int).tmod 4 = (m:Int))) (f8:Hid (IntKind.i64.wrap ((m:Int) * (s:Int)) = (fs:Int))) (h1:Hid (IntKind.i64.wrap ((q:Int) * (r:Int)) = (o1:Int))) (h2:Hid (IntKind.u32.wrap (x.toNat:Int) = (y:Int))) (hw:Hid (whI (bs2:Int) (y:Int) = (wh:Int))) (h3:Hid (IntKind.i64.wrap ((fs:Int) + (wh:Int)) = (sm:Int))) (h4:Hid (¬ q = 0 ∧ (sm:Int).tmod (q:Int) = (ix:Int))) (h5:Hid (IntKind.i64.wrap ((o1:Int) + (ix:Int)) = (res:Int))) (e1:1 ≤ (bs2:Int)) (e2:(bs2:Int) ≤ 2147483647) (e3:(y:Int) ≤ 4294967295):Calls Tryd.prog 56 #[.pointer (some ⟨p,0,none⟩),.int .u64 (x.toNat:Int)] w fun e w'=>e = .returned (.int .i64 (res:Int)) ∧ Ext w w':=by
  have pp0:Hid (0 < ps):=by show _ < _; omega
  replace a1:=hideit a1
  replace a3:=hideit a3
  replace a4:=hideit a4
  have hE:=hideit (Ext.refl w)
  replace hM:=hideit hM
  go_enter Tryd.func56,Tryd.ntmps56
  go_upto_region 1 with (fail)
  refine wp_region_lit ?_
  have m1:w.cell? ⟨p,3,none⟩ = some (.int .i64 (q:Int)):=hM.out.1 3 (by decide)
  refine xm [some (.pointer (some ⟨p,0,none⟩)),some (.pointer (some ⟨p,0,none⟩)),some (.pointer (some ⟨p,3,none⟩)),some (.int .i64 (q:Int)),some (.int .i64 (s:Int)),some (.int .i64 (s:Int))] (by kernel_rfl) (by simp [xr,go_sem,m1,f0.out.1,f0.out.2]) ?_
  simp only [xw,p0,p1,p2,p3]
  clear m1
  go_upto_region 2 with (fail)
  refine wp_region_lit ?_
  have m2:w.cell? ⟨p,2,none⟩ = some (.int .i64 (L:Int)):=hM.out.1 2 (by decide)
  refine xm [some (.int .u64 (x.toNat:Int)),some (.int .u64 (v:Int)),some (.int .i64 (v:Int)),some (.pointer (some ⟨p,0,none⟩)),some (.pointer (some ⟨p,0,none⟩)),some (.pointer (some ⟨p,0,none⟩)),some (.pointer (some ⟨p,2,none⟩)),some (.int .i64 (L:Int)),some (.int .i64 (r:Int)),some (.int .i64 (r:Int))] (by kernel_rfl) (by simp [xr,go_sem,f1.out,f2.out,m2,f3.out.1,f3.out.2]) ?_
  simp only [xw,p0,p1,p2,p3]
  clear m2
  go_upto_region 3 with (fail)
  refine wp_region_lit ?_
  have m3:w.cell? ⟨p,5,none⟩ = some (.int .i64 (ps:Int)):=hM.out.1 5 (by decide)
  refine xm [some (.pointer (some ⟨p,0,none⟩)),some (.pointer (some ⟨p,0,none⟩)),some (.pointer (some ⟨p,5,none⟩)),some (.int .i64 (ps:Int)),some (.bool false),some (.bool false),none,none,none,none,none,some (.bool false)] (by kernel_rfl) (by simp [xr,go_sem,m3,a1.out]) ?_
  simp only [xw,p0,p1,p2,p3]
  clear m3
  go_upto_region 5 with (fail)
  refine wp_region_lit ?_
  have m4:w.cell? ⟨p,6,none⟩ = some (.int .i64 (sl:Int)):=hM.out.1 6 (by decide)
  refine xm [some (.pointer (some ⟨p,0,none⟩)),some (.pointer (some ⟨p,0,none⟩)),some (.pointer (some ⟨p,6,none⟩)),some (.int .i64 (sl:Int)),some (.int .i64 (s:Int)),some (.int .i64 (bs:Int)),some (.int .i64 (bs:Int))] (by kernel_rfl) (by simp [xr,go_sem,m4,f4.out]) ?_
  simp only [xw,p0,p1,p2,p3]
  clear m4
  go_upto_region 7 with (fail)
  refine wp_region_lit ?_
  have m5:w.cell? ⟨p,5,none⟩ = some (.int .i64 (ps:Int)):=hM.out.1 5 (by decide)
  refine xm [some (.pointer (some ⟨p,0,none⟩)),some (.pointer (some ⟨p,0,none⟩)),some (.pointer (some ⟨p,5,none⟩)),some (.int .i64 (ps:Int)),some (.bool true)] (by kernel_rfl) (by simp [xr,go_sem,m5,pp0.out]) ?_
  simp only [xw,p0,p1,p2,p3]
  clear m5
  go_upto_region 8 with (fail)
  refine wp_region_lit ?_
  have m6:w.cell? ⟨p,3,none⟩ = some (.int .i64 (q:Int)):=hM.out.1 3 (by decide)
  refine xm [some (.pointer (some ⟨p,0,none⟩)),some (.pointer (some ⟨p,0,none⟩)),some (.pointer (some ⟨p,3,none⟩)),some (.int .i64 (q:Int)),some (.int .i64 (s:Int)),some (.int .i64 (bs2:Int)),some (.int .i64 (bs2:Int))] (by kernel_rfl) (by simp [xr,go_sem,m6,f5.out]) ?_
  simp only [xw,p0,p1,p2,p3]
  clear m6
  go_upto_region 9 with (fail)
  refine wp_region_lit ?_
  have m7:w.cell? ⟨p,6,none⟩ = some (.int .i64 (sl:Int)):=hM.out.1 6 (by decide)
  refine xm [some (.pointer (some ⟨p,0,none⟩)),some (.pointer (some ⟨p,0,none⟩)),some (.pointer (some ⟨p,6,none⟩)),some (.int .i64 (sl:Int)),some (.int .i64 (a:Int)),some (.int .i64 (m:Int)),some (.int .i64 (s:Int)),some (.int .i64 (fs:Int)),some (.int .i64 (fs:Int))] (by kernel_rfl) (by simp [xr,go_sem,m7,f6.out,f7.out,f8.out]) ?_
  simp only [xw,p0,p1,p2,p3]
  clear m7
  go_upto_region 10 with (fail)
  refine wp_region_lit ?_
  have m8:w.cell? ⟨p,7,none⟩ = some (.int .i64 (ln:Int)):=hM.out.1 7 (by decide)
  refine xm [some (.int .i64 (r:Int)),some (.pointer (some ⟨p,0,none⟩)),some (.pointer (some ⟨p,0,none⟩)),some (.pointer (some ⟨p,7,none⟩)),some (.int .i64 (ln:Int)),some (.bool false)] (by kernel_rfl) (by simp [xr,go_sem,m8,a3.out]) ?_
  simp only [xw,p0,p1,p2,p3]
  clear m8
  go_upto_region 12 with (fail)
  refine wp_region_lit ?_
  have m9:w.cell? ⟨p,8,none⟩ = some (.int .i64 (k:Int)):=hM.out.1 8 (by decide)
  refine xm [some (.pointer (some ⟨p,0,none⟩)),some (.pointer (some ⟨p,0,none⟩)),some (.pointer (some ⟨p,8,none⟩)),some (.int .i64 (k:Int)),some (.bool false)] (by kernel_rfl) (by simp [xr,go_sem,m9,a4.out]) ?_
  simp only [xw,p0,p1,p2,p3]
  clear m9
  go_upto_region 14 with (fail)
  replace hM:=hideit hM.out.drew
  replace hE:=hideit (Ext.draw hE.out)
  refine wp_region_lad (fun X=>Ext w.drew X) [(false,0),(false,1),(false,2),(false,3),(false,4),(false,5),(false,6),(false,7),(false,8),(false,9),(false,12),(false,13),(false,14),(false,15),(true,10),(false,11),(false,16),(false,17),(false,18)] (by kernel_rfl) (by kernel_rfl) (by decide +kernel) (by decide +kernel) (by decide +kernel) (by decide +kernel) (Ext.refl _) ?_
  refine wpX_f _ (.pointer (some ⟨p,0,none⟩)) rfl rfl (fun X _=>by simp [go_sem]) ?_
  simp only [List.getElem_toArray,List.getElem_cons_zero,Act.put,List.setIfInBounds_toArray,List.set_cons_zero,List.set_cons_succ]
  refine wpX_f _ (.pointer (some ⟨p,0,none⟩)) rfl rfl (fun X _=>by simp [go_sem]) ?_
  simp only [jw,jz,kj,jk,jq,jv,jy]
  refine wpX_f _ (.pointer (some ⟨p,3,none⟩)) rfl rfl (fun X _=>by simp [go_sem]) ?_
  simp only [jw,jz,kj,jk,jq,jv,jy]
  refine wpX_f _ (.int .i64 (q:Int)) rfl rfl (fun X hX=>by have m10:X.cell? ⟨p,3,none⟩ = some (.int .i64 (q:Int)):=(hM.out.carry hX).1 3 (by decide); simp [go_sem,m10]) ?_
  simp only [jw,jz,kj,jk,jq,jv,jy]
  refine wpX_f _ (.int .i64 (r:Int)) rfl rfl (fun X _=>by simp [go_sem]) ?_
  simp only [jw,jz,kj,jk,jq,jv,jy]
  refine wpX_f _ (.int .i64 (o1:Int)) rfl rfl (fun X _=>by simp [go_sem,h1.out]) ?_
  simp only [jw,jz,kj,jk,jq,jv,jy]
  refine wpX_f _ (.int .i64 (fs:Int)) rfl rfl (fun X _=>by simp [go_sem]) ?_
  simp only [jw,jz,kj,jk,jq,jv,jy]
  refine wpX_f _ (.int .i64 (bs2:Int)) rfl rfl (fun X _=>by simp [go_sem]) ?_
  simp only [jw,jz,kj,jk,jq,jv,jy]
  refine wpX_f _ (.int .u64 (x.toNat:Int)) rfl rfl (fun X _=>by simp [go_sem]) ?_
  simp only [jw,jz,kj,jk,jq,jv,jy]
  refine wpX_f _ (.int .u32 (y:Int)) rfl rfl (fun X _=>by simp [go_sem,h2.out]) ?_
  simp only [jw,jz,kj,jk,jq,jv,jy]
  refine wpX_f _ (.pointer (some ⟨p,0,none⟩)) rfl rfl (fun X _=>by simp [go_sem]) ?_
  simp only [jw,jz,kj,jk,jq,jv,jy]
  refine wpX_f _ (.pointer (some ⟨p,0,none⟩)) rfl rfl (fun X _=>by simp [go_sem]) ?_
  simp only [jw,jz,kj,jk,jq,jv,jy]
  refine wpX_f _ (.pointer (some ⟨p,3,none⟩)) rfl rfl (fun X _=>by simp [go_sem]) ?_
  simp only [jw,jz,kj,jk,jq,jv,jy]
  refine wpX_f _ (.int .i64 (q:Int)) rfl rfl (fun X hX=>by have m11:X.cell? ⟨p,3,none⟩ = some (.int .i64 (q:Int)):=(hM.out.carry hX).1 3 (by decide); simp [go_sem,m11]) ?_
  simp only [jw,jz,kj,jk,jq,jv,jy]
  refine wpX_call _ rfl rfl (by simp [go_sem]) ((rwhich_any (bs2:Int) (y:Int) e1 e2 (by omega) e3 w.drew).mono ?_)
  rintro e e9 ⟨rfl,hw9⟩
  have hX9:Ext w.drew e9:=by rw [hw9]; exact Ext.refl _
  clear hw9
  refine ⟨_,rfl,fun X=>Ext e9 X,fun X hX=>Ext.trans hX9 hX,Ext.refl _,?_⟩
  simp only [jw,jz,kj,jk,jq,jv,jy]
  replace hM:=hideit (hM.out.carry hX9)
  replace hE:=hideit (Ext.trans hE.out hX9)
  rw [hw.out]
  clear hX9
  refine wpX_f _ (.int .i64 (sm:Int)) rfl rfl (fun X _=>by simp [go_sem,h3.out]) ?_
  simp only [jw,jz,kj,jk,jq,jv,jy]
  refine wpX_f _ (.int .i64 (ix:Int)) rfl rfl (fun X _=>by simp [go_sem,h4.out.1,h4.out.2]) ?_
  simp only [jw,jz,kj,jk,jq,jv,jy]
  refine wpX_f _ (.int .i64 (res:Int)) rfl rfl (fun X _=>by simp [go_sem,h5.out]) ?_
  simp only [jw,jz,kj,jk,jq,jv,jy]
  refine wpX_f _ (.int .i64 (res:Int)) rfl rfl (fun X _=>by simp [go_sem]) ?_
  simp only [jw,jz,kj,jk,jq,jv,jy]
  refine wpX_nil ?_
  go_wp2
  go_ret
  exact ⟨rfl,hE.out⟩
end Go.Proofs.YtfbmeclpcgdmhabDoor
namespace Go.Proofs.YtfbmeclpcgdmhabDoor
open Go.RowKit Go.BigFrame
set_option linter.unusedVariables false
theorem roth_any (p T M L b c ps sl ln k s:Nat) (x:BitVec 64) (w:World) (hM:RowAt p 9 (rmV T M L (4 * s) b c ps sl ln k) w) (hs:2 ≤ s ∧ s ≤ 64) (hsl:sl < 4) (hk:k ≤ 64) (hln:ln < L) (hL:L ≤ 4) (hk0:ps = 0 → sl = 0 → 2 ≤ k):Calls Tryd.prog 56 #[.pointer (some ⟨p,0,none⟩),.int .u64 (x.toNat:Int)] w fun e w'=>e = .returned (.int .i64 ((otA s L ps sl ln k x:Nat):Int)) ∧ Ext w w':=by
  have hx:=x.isLt
  have hfl:=fs_le s ps sl hs.2
  have hq1:(sl:Int) * (s:Int) = ((sl * s:Nat):Int):=by simp
  have hq2:(((sl + 1) % 4:Nat):Int) * (s:Int) = (((sl + 1) % 4 * s:Nat):Int):=by simp
  have b1:sl * s ≤ 4 * 64:=Nat.mul_le_mul (by omega) hs.2
  have b2:(sl + 1) % 4 * s ≤ 4 * 64:=Nat.mul_le_mul (by omega) hs.2
  unfold otA ixA lnA
  by_cases a1:ps = 0
  · by_cases a2:sl = 0
    · rw [if_pos ⟨a1,a2⟩]
      have hc:=cn_pos s ps sl ln k ln hs.1 (fun h1 h2=>⟨rfl,hk0 h1 h2⟩)
      have hcb:=cn_le s ps sl ln k ln hs.2 hsl hk
      have ecn:cnA s ps sl ln k ln = ((sl * s) + k - 1):=by unfold cnA; rw [if_pos rfl,if_pos a1]
      have efs:fsA s ps sl = 0:=by unfold fsA; rw [if_pos a1]
      rw [ecn] at hc hcb
      rw [ecn,efs]
      have hwf:=wh_facts ((((sl * s) + k - 1):Nat):Int) (((x.toNat % 4294967296):Nat):Int) (by omega) (by omega) (by omega) (by omega)
      have hwn:whI ((((sl * s) + k - 1):Nat):Int) (((x.toNat % 4294967296):Nat):Int) = (((whI ((((sl * s) + k - 1):Nat):Int) (((x.toNat % 4294967296):Nat):Int)).toNat:Nat):Int):=by omega
      have hix:((0 + (whI ((((sl * s) + k - 1):Nat):Int) (((x.toNat % 4294967296):Nat):Int)).toNat) % (4 * s)) < 4 * s:=Nat.mod_lt _ (by omega)
      have hol:4 * s * ln ≤ 256 * 4:=Nat.mul_le_mul (by omega) (by omega)
      have ht:(((whI ((((sl * s) + k - 1):Nat):Int) (((x.toNat % 4294967296):Nat):Int)).toNat:Nat):Int).tmod ((4 * s:Nat):Int) = ((((0 + (whI ((((sl * s) + k - 1):Nat):Int) (((x.toNat % 4294967296):Nat):Int)).toNat) % (4 * s)):Nat):Int):=by
        rw [Int.tmod_eq_emod_of_nonneg (by omega),Nat.zero_add]
        rfl
      exact roth_zero_same p T M L (4 * s) b c ps sl ln k s (x.toNat / 4294967296) (x.toNat / 4294967296 % L) (sl * s) (3 * s) (sl + 1) ((sl + 1) % 4) ((sl + 1) % 4 * s) ((sl * s) + k) ((sl * s) + k - 1) (4 * s * ln) (x.toNat % 4294967296) ((whI ((((sl * s) + k - 1):Nat):Int) (((x.toNat % 4294967296):Nat):Int)).toNat) ((whI ((((sl * s) + k - 1):Nat):Int) (((x.toNat % 4294967296):Nat):Int)).toNat) ((0 + (whI ((((sl * s) + k - 1):Nat):Int) (((x.toNat % 4294967296):Nat):Int)).toNat) % (4 * s)) (4 * s * ln + ((0 + (whI ((((sl * s) + k - 1):Nat):Int) (((x.toNat % 4294967296):Nat):Int)).toNat) % (4 * s))) x w hM a1 a2 ⟨by omega,by rw [IntKind.wrap_i64]; omega⟩ (by show _ = _; omega) (by show _ = _; rw [IntKind.wrap_i64]; omega) ⟨by omega,by rw [Int.tmod_eq_emod_of_nonneg (by omega)]; rfl⟩ (by show _ = _; rw [hq1,IntKind.wrap_i64]; omega) (by show _ = _; rw [IntKind.wrap_i64]; omega) (by show _ = _; rw [IntKind.wrap_i64]; omega) (by show _ = _; rw [← Int.natCast_mul,IntKind.wrap_i64]; omega) (by show _ = _; rw [IntKind.wrap_u32]; omega) hwn (by show _ = _; rw [IntKind.wrap_i64]; omega) ⟨by omega,ht⟩ (by show _ = _; rw [IntKind.wrap_i64]; omega) (by omega) (by omega) (by omega)
    · rw [if_neg fun h=>a2 h.2]
      by_cases a3:(x.toNat / 4294967296 % L) = ln
      · have hc:=cn_pos s ps sl ln k (x.toNat / 4294967296 % L) hs.1 (fun _ h2=>absurd h2 a2)
        have hcb:=cn_le s ps sl ln k (x.toNat / 4294967296 % L) hs.2 hsl hk
        have ecn:cnA s ps sl ln k (x.toNat / 4294967296 % L) = ((sl * s) + k - 1):=by unfold cnA; rw [if_pos a3,if_pos a1]
        have efs:fsA s ps sl = 0:=by unfold fsA; rw [if_pos a1]
        rw [ecn] at hc hcb
        rw [ecn,efs]
        have hwf:=wh_facts ((((sl * s) + k - 1):Nat):Int) (((x.toNat % 4294967296):Nat):Int) (by omega) (by omega) (by omega) (by omega)
        have hwn:whI ((((sl * s) + k - 1):Nat):Int) (((x.toNat % 4294967296):Nat):Int) = (((whI ((((sl * s) + k - 1):Nat):Int) (((x.toNat % 4294967296):Nat):Int)).toNat:Nat):Int):=by omega
        have hix:((0 + (whI ((((sl * s) + k - 1):Nat):Int) (((x.toNat % 4294967296):Nat):Int)).toNat) % (4 * s)) < 4 * s:=Nat.mod_lt _ (by omega)
        have hol:4 * s * (x.toNat / 4294967296 % L) ≤ 256 * 4:=Nat.mul_le_mul (by omega) (by have:=Nat.mod_lt (x.toNat / 4294967296) (show 0 < L by omega); omega)
        have ht:(((whI ((((sl * s) + k - 1):Nat):Int) (((x.toNat % 4294967296):Nat):Int)).toNat:Nat):Int).tmod ((4 * s:Nat):Int) = ((((0 + (whI ((((sl * s) + k - 1):Nat):Int) (((x.toNat % 4294967296):Nat):Int)).toNat) % (4 * s)):Nat):Int):=by
          rw [Int.tmod_eq_emod_of_nonneg (by omega),Nat.zero_add]
          rfl
        exact roth_sl_same p T M L (4 * s) b c ps sl ln k s (x.toNat / 4294967296) (x.toNat / 4294967296 % L) (sl * s) (3 * s) (sl + 1) ((sl + 1) % 4) ((sl + 1) % 4 * s) ((sl * s) + k) ((sl * s) + k - 1) (4 * s * (x.toNat / 4294967296 % L)) (x.toNat % 4294967296) ((whI ((((sl * s) + k - 1):Nat):Int) (((x.toNat % 4294967296):Nat):Int)).toNat) ((whI ((((sl * s) + k - 1):Nat):Int) (((x.toNat % 4294967296):Nat):Int)).toNat) ((0 + (whI ((((sl * s) + k - 1):Nat):Int) (((x.toNat % 4294967296):Nat):Int)).toNat) % (4 * s)) (4 * s * (x.toNat / 4294967296 % L) + ((0 + (whI ((((sl * s) + k - 1):Nat):Int) (((x.toNat % 4294967296):Nat):Int)).toNat) % (4 * s))) x w hM a1 a2 (by omega) ⟨by omega,by rw [IntKind.wrap_i64]; omega⟩ (by show _ = _; omega) (by show _ = _; rw [IntKind.wrap_i64]; omega) ⟨by omega,by rw [Int.tmod_eq_emod_of_nonneg (by omega)]; rfl⟩ (by show _ = _; rw [hq1,IntKind.wrap_i64]; omega) (by show _ = _; rw [IntKind.wrap_i64]; omega) (by show _ = _; rw [IntKind.wrap_i64]; omega) (by show _ = _; rw [← Int.natCast_mul,IntKind.wrap_i64]; omega) (by show _ = _; rw [IntKind.wrap_u32]; omega) hwn (by show _ = _; rw [IntKind.wrap_i64]; omega) ⟨by omega,ht⟩ (by show _ = _; rw [IntKind.wrap_i64]; omega) (by omega) (by omega) (by omega)
      · by_cases a4:k = 0
        · have hc:=cn_pos s ps sl ln k (x.toNat / 4294967296 % L) hs.1 (fun _ h2=>absurd h2 a2)
          have hcb:=cn_le s ps sl ln k (x.toNat / 4294967296 % L) hs.2 hsl hk
          have ecn:cnA s ps sl ln k (x.toNat / 4294967296 % L) = ((sl * s) - 1):=by unfold cnA; rw [if_neg a3,if_pos a4,if_pos a1]
          have efs:fsA s ps sl = 0:=by unfold fsA; rw [if_pos a1]
          rw [ecn] at hc hcb
          rw [ecn,efs]
          have hwf:=wh_facts ((((sl * s) - 1):Nat):Int) (((x.toNat % 4294967296):Nat):Int) (by omega) (by omega) (by omega) (by omega)
          have hwn:whI ((((sl * s) - 1):Nat):Int) (((x.toNat % 4294967296):Nat):Int) = (((whI ((((sl * s) - 1):Nat):Int) (((x.toNat % 4294967296):Nat):Int)).toNat:Nat):Int):=by omega
          have hix:((0 + (whI ((((sl * s) - 1):Nat):Int) (((x.toNat % 4294967296):Nat):Int)).toNat) % (4 * s)) < 4 * s:=Nat.mod_lt _ (by omega)
          have hol:4 * s * (x.toNat / 4294967296 % L) ≤ 256 * 4:=Nat.mul_le_mul (by omega) (by have:=Nat.mod_lt (x.toNat / 4294967296) (show 0 < L by omega); omega)
          have ht:(((whI ((((sl * s) - 1):Nat):Int) (((x.toNat % 4294967296):Nat):Int)).toNat:Nat):Int).tmod ((4 * s:Nat):Int) = ((((0 + (whI ((((sl * s) - 1):Nat):Int) (((x.toNat % 4294967296):Nat):Int)).toNat) % (4 * s)):Nat):Int):=by
            rw [Int.tmod_eq_emod_of_nonneg (by omega),Nat.zero_add]
            rfl
          exact roth_sl_zero p T M L (4 * s) b c ps sl ln k s (x.toNat / 4294967296) (x.toNat / 4294967296 % L) (sl * s) (3 * s) (sl + 1) ((sl + 1) % 4) ((sl + 1) % 4 * s) ((sl * s) + k) ((sl * s) - 1) (4 * s * (x.toNat / 4294967296 % L)) (x.toNat % 4294967296) ((whI ((((sl * s) - 1):Nat):Int) (((x.toNat % 4294967296):Nat):Int)).toNat) ((whI ((((sl * s) - 1):Nat):Int) (((x.toNat % 4294967296):Nat):Int)).toNat) ((0 + (whI ((((sl * s) - 1):Nat):Int) (((x.toNat % 4294967296):Nat):Int)).toNat) % (4 * s)) (4 * s * (x.toNat / 4294967296 % L) + ((0 + (whI ((((sl * s) - 1):Nat):Int) (((x.toNat % 4294967296):Nat):Int)).toNat) % (4 * s))) x w hM a1 a2 (by omega) a4 ⟨by omega,by rw [IntKind.wrap_i64]; omega⟩ (by show _ = _; omega) (by show _ = _; rw [IntKind.wrap_i64]; omega) ⟨by omega,by rw [Int.tmod_eq_emod_of_nonneg (by omega)]; rfl⟩ (by show _ = _; rw [hq1,IntKind.wrap_i64]; omega) (by show _ = _; rw [IntKind.wrap_i64]; omega) (by show _ = _; rw [← Int.natCast_mul,IntKind.wrap_i64]; omega) (by show _ = _; rw [IntKind.wrap_u32]; omega) hwn (by show _ = _; rw [IntKind.wrap_i64]; omega) ⟨by omega,ht⟩ (by show _ = _; rw [IntKind.wrap_i64]; omega) (by omega) (by omega) (by omega)
        · have hc:=cn_pos s ps sl ln k (x.toNat / 4294967296 % L) hs.1 (fun _ h2=>absurd h2 a2)
          have hcb:=cn_le s ps sl ln k (x.toNat / 4294967296 % L) hs.2 hsl hk
          have ecn:cnA s ps sl ln k (x.toNat / 4294967296 % L) = (sl * s):=by unfold cnA; rw [if_neg a3,if_neg a4,if_pos a1]
          have efs:fsA s ps sl = 0:=by unfold fsA; rw [if_pos a1]
          rw [ecn] at hc hcb
          rw [ecn,efs]
          have hwf:=wh_facts (((sl * s):Nat):Int) (((x.toNat % 4294967296):Nat):Int) (by omega) (by omega) (by omega) (by omega)
          have hwn:whI (((sl * s):Nat):Int) (((x.toNat % 4294967296):Nat):Int) = (((whI (((sl * s):Nat):Int) (((x.toNat % 4294967296):Nat):Int)).toNat:Nat):Int):=by omega
          have hix:((0 + (whI (((sl * s):Nat):Int) (((x.toNat % 4294967296):Nat):Int)).toNat) % (4 * s)) < 4 * s:=Nat.mod_lt _ (by omega)
          have hol:4 * s * (x.toNat / 4294967296 % L) ≤ 256 * 4:=Nat.mul_le_mul (by omega) (by have:=Nat.mod_lt (x.toNat / 4294967296) (show 0 < L by omega); omega)
          have ht:(((whI (((sl * s):Nat):Int) (((x.toNat % 4294967296):Nat):Int)).toNat:Nat):Int).tmod ((4 * s:Nat):Int) = ((((0 + (whI (((sl * s):Nat):Int) (((x.toNat % 4294967296):Nat):Int)).toNat) % (4 * s)):Nat):Int):=by
            rw [Int.tmod_eq_emod_of_nonneg (by omega),Nat.zero_add]
            rfl
          exact roth_sl_else p T M L (4 * s) b c ps sl ln k s (x.toNat / 4294967296) (x.toNat / 4294967296 % L) (sl * s) (3 * s) (sl + 1) ((sl + 1) % 4) ((sl + 1) % 4 * s) ((sl * s) + k) (sl * s) (4 * s * (x.toNat / 4294967296 % L)) (x.toNat % 4294967296) ((whI (((sl * s):Nat):Int) (((x.toNat % 4294967296):Nat):Int)).toNat) ((whI (((sl * s):Nat):Int) (((x.toNat % 4294967296):Nat):Int)).toNat) ((0 + (whI (((sl * s):Nat):Int) (((x.toNat % 4294967296):Nat):Int)).toNat) % (4 * s)) (4 * s * (x.toNat / 4294967296 % L) + ((0 + (whI (((sl * s):Nat):Int) (((x.toNat % 4294967296):Nat):Int)).toNat) % (4 * s))) x w hM a1 a2 (by omega) a4 ⟨by omega,by rw [IntKind.wrap_i64]; omega⟩ (by show _ = _; omega) (by show _ = _; rw [IntKind.wrap_i64]; omega) ⟨by omega,by rw [Int.tmod_eq_emod_of_nonneg (by omega)]; rfl⟩ (by show _ = _; rw [hq1,IntKind.wrap_i64]; omega) (by show _ = _; rw [← Int.natCast_mul,IntKind.wrap_i64]; omega) (by show _ = _; rw [IntKind.wrap_u32]; omega) hwn (by show _ = _; rw [IntKind.wrap_i64]; omega) ⟨by omega,ht⟩ (by show _ = _; rw [IntKind.wrap_i64]; omega) (by omega) (by omega) (by omega)
  · rw [if_neg fun h=>a1 h.1]
    by_cases a3:(x.toNat / 4294967296 % L) = ln
    · have hc:=cn_pos s ps sl ln k (x.toNat / 4294967296 % L) hs.1 (fun h1 _=>absurd h1 a1)
      have hcb:=cn_le s ps sl ln k (x.toNat / 4294967296 % L) hs.2 hsl hk
      have ecn:cnA s ps sl ln k (x.toNat / 4294967296 % L) = ((3 * s) + k - 1):=by unfold cnA; rw [if_pos a3,if_neg a1]
      have efs:fsA s ps sl = ((sl + 1) % 4 * s):=by unfold fsA; rw [if_neg a1]
      rw [ecn] at hc hcb
      rw [ecn,efs]
      have hwf:=wh_facts ((((3 * s) + k - 1):Nat):Int) (((x.toNat % 4294967296):Nat):Int) (by omega) (by omega) (by omega) (by omega)
      have hwn:whI ((((3 * s) + k - 1):Nat):Int) (((x.toNat % 4294967296):Nat):Int) = (((whI ((((3 * s) + k - 1):Nat):Int) (((x.toNat % 4294967296):Nat):Int)).toNat:Nat):Int):=by omega
      have hix:((((sl + 1) % 4 * s) + (whI ((((3 * s) + k - 1):Nat):Int) (((x.toNat % 4294967296):Nat):Int)).toNat) % (4 * s)) < 4 * s:=Nat.mod_lt _ (by omega)
      have hol:4 * s * (x.toNat / 4294967296 % L) ≤ 256 * 4:=Nat.mul_le_mul (by omega) (by have:=Nat.mod_lt (x.toNat / 4294967296) (show 0 < L by omega); omega)
      have ht:(((((sl + 1) % 4 * s) + (whI ((((3 * s) + k - 1):Nat):Int) (((x.toNat % 4294967296):Nat):Int)).toNat):Nat):Int).tmod ((4 * s:Nat):Int) = ((((((sl + 1) % 4 * s) + (whI ((((3 * s) + k - 1):Nat):Int) (((x.toNat % 4294967296):Nat):Int)).toNat) % (4 * s)):Nat):Int):=by
        rw [Int.tmod_eq_emod_of_nonneg (by omega)]
        rfl
      exact roth_ps_same p T M L (4 * s) b c ps sl ln k s (x.toNat / 4294967296) (x.toNat / 4294967296 % L) (sl * s) (3 * s) (sl + 1) ((sl + 1) % 4) ((sl + 1) % 4 * s) ((3 * s) + k) ((3 * s) + k - 1) (4 * s * (x.toNat / 4294967296 % L)) (x.toNat % 4294967296) ((whI ((((3 * s) + k - 1):Nat):Int) (((x.toNat % 4294967296):Nat):Int)).toNat) ((((sl + 1) % 4 * s) + (whI ((((3 * s) + k - 1):Nat):Int) (((x.toNat % 4294967296):Nat):Int)).toNat)) ((((sl + 1) % 4 * s) + (whI ((((3 * s) + k - 1):Nat):Int) (((x.toNat % 4294967296):Nat):Int)).toNat) % (4 * s)) (4 * s * (x.toNat / 4294967296 % L) + ((((sl + 1) % 4 * s) + (whI ((((3 * s) + k - 1):Nat):Int) (((x.toNat % 4294967296):Nat):Int)).toNat) % (4 * s))) x w hM a1 (by omega) ⟨by omega,by rw [IntKind.wrap_i64]; omega⟩ (by show _ = _; omega) (by show _ = _; rw [IntKind.wrap_i64]; omega) ⟨by omega,by rw [Int.tmod_eq_emod_of_nonneg (by omega)]; rfl⟩ (by show _ = _; rw [hq1,IntKind.wrap_i64]; omega) (by show _ = _; rw [IntKind.wrap_i64]; omega) (by show _ = _; rw [IntKind.wrap_i64]; omega) (by show _ = _; rw [Int.tmod_eq_emod_of_nonneg (by omega)]; omega) (by show _ = _; rw [hq2,IntKind.wrap_i64]; omega) (by show _ = _; rw [IntKind.wrap_i64]; omega) (by show _ = _; rw [IntKind.wrap_i64]; omega) (by show _ = _; rw [← Int.natCast_mul,IntKind.wrap_i64]; omega) (by show _ = _; rw [IntKind.wrap_u32]; omega) hwn (by show _ = _; rw [IntKind.wrap_i64]; omega) ⟨by omega,ht⟩ (by show _ = _; rw [IntKind.wrap_i64]; omega) (by omega) (by omega) (by omega)
    · by_cases a4:k = 0
      · have hc:=cn_pos s ps sl ln k (x.toNat / 4294967296 % L) hs.1 (fun h1 _=>absurd h1 a1)
        have hcb:=cn_le s ps sl ln k (x.toNat / 4294967296 % L) hs.2 hsl hk
        have ecn:cnA s ps sl ln k (x.toNat / 4294967296 % L) = ((3 * s) - 1):=by unfold cnA; rw [if_neg a3,if_pos a4,if_neg a1]
        have efs:fsA s ps sl = ((sl + 1) % 4 * s):=by unfold fsA; rw [if_neg a1]
        rw [ecn] at hc hcb
        rw [ecn,efs]
        have hwf:=wh_facts ((((3 * s) - 1):Nat):Int) (((x.toNat % 4294967296):Nat):Int) (by omega) (by omega) (by omega) (by omega)
        have hwn:whI ((((3 * s) - 1):Nat):Int) (((x.toNat % 4294967296):Nat):Int) = (((whI ((((3 * s) - 1):Nat):Int) (((x.toNat % 4294967296):Nat):Int)).toNat:Nat):Int):=by omega
        have hix:((((sl + 1) % 4 * s) + (whI ((((3 * s) - 1):Nat):Int) (((x.toNat % 4294967296):Nat):Int)).toNat) % (4 * s)) < 4 * s:=Nat.mod_lt _ (by omega)
        have hol:4 * s * (x.toNat / 4294967296 % L) ≤ 256 * 4:=Nat.mul_le_mul (by omega) (by have:=Nat.mod_lt (x.toNat / 4294967296) (show 0 < L by omega); omega)
        have ht:(((((sl + 1) % 4 * s) + (whI ((((3 * s) - 1):Nat):Int) (((x.toNat % 4294967296):Nat):Int)).toNat):Nat):Int).tmod ((4 * s:Nat):Int) = ((((((sl + 1) % 4 * s) + (whI ((((3 * s) - 1):Nat):Int) (((x.toNat % 4294967296):Nat):Int)).toNat) % (4 * s)):Nat):Int):=by
          rw [Int.tmod_eq_emod_of_nonneg (by omega)]
          rfl
        exact roth_ps_zero p T M L (4 * s) b c ps sl ln k s (x.toNat / 4294967296) (x.toNat / 4294967296 % L) (sl * s) (3 * s) (sl + 1) ((sl + 1) % 4) ((sl + 1) % 4 * s) ((3 * s) + k) ((3 * s) - 1) (4 * s * (x.toNat / 4294967296 % L)) (x.toNat % 4294967296) ((whI ((((3 * s) - 1):Nat):Int) (((x.toNat % 4294967296):Nat):Int)).toNat) ((((sl + 1) % 4 * s) + (whI ((((3 * s) - 1):Nat):Int) (((x.toNat % 4294967296):Nat):Int)).toNat)) ((((sl + 1) % 4 * s) + (whI ((((3 * s) - 1):Nat):Int) (((x.toNat % 4294967296):Nat):Int)).toNat) % (4 * s)) (4 * s * (x.toNat / 4294967296 % L) + ((((sl + 1) % 4 * s) + (whI ((((3 * s) - 1):Nat):Int) (((x.toNat % 4294967296):Nat):Int)).toNat) % (4 * s))) x w hM a1 (by omega) a4 ⟨by omega,by rw [IntKind.wrap_i64]; omega⟩ (by show _ = _; omega) (by show _ = _; rw [IntKind.wrap_i64]; omega) ⟨by omega,by rw [Int.tmod_eq_emod_of_nonneg (by omega)]; rfl⟩ (by show _ = _; rw [hq1,IntKind.wrap_i64]; omega) (by show _ = _; rw [IntKind.wrap_i64]; omega) (by show _ = _; rw [IntKind.wrap_i64]; omega) (by show _ = _; rw [Int.tmod_eq_emod_of_nonneg (by omega)]; omega) (by show _ = _; rw [hq2,IntKind.wrap_i64]; omega) (by show _ = _; rw [IntKind.wrap_i64]; omega) (by show _ = _; rw [← Int.natCast_mul,IntKind.wrap_i64]; omega) (by show _ = _; rw [IntKind.wrap_u32]; omega) hwn (by show _ = _; rw [IntKind.wrap_i64]; omega) ⟨by omega,ht⟩ (by show _ = _; rw [IntKind.wrap_i64]; omega) (by omega) (by omega) (by omega)
      · have hc:=cn_pos s ps sl ln k (x.toNat / 4294967296 % L) hs.1 (fun h1 _=>absurd h1 a1)
        have hcb:=cn_le s ps sl ln k (x.toNat / 4294967296 % L) hs.2 hsl hk
        have ecn:cnA s ps sl ln k (x.toNat / 4294967296 % L) = (3 * s):=by unfold cnA; rw [if_neg a3,if_neg a4,if_neg a1]
        have efs:fsA s ps sl = ((sl + 1) % 4 * s):=by unfold fsA; rw [if_neg a1]
        rw [ecn] at hc hcb
        rw [ecn,efs]
        have hwf:=wh_facts (((3 * s):Nat):Int) (((x.toNat % 4294967296):Nat):Int) (by omega) (by omega) (by omega) (by omega)
        have hwn:whI (((3 * s):Nat):Int) (((x.toNat % 4294967296):Nat):Int) = (((whI (((3 * s):Nat):Int) (((x.toNat % 4294967296):Nat):Int)).toNat:Nat):Int):=by omega
        have hix:((((sl + 1) % 4 * s) + (whI (((3 * s):Nat):Int) (((x.toNat % 4294967296):Nat):Int)).toNat) % (4 * s)) < 4 * s:=Nat.mod_lt _ (by omega)
        have hol:4 * s * (x.toNat / 4294967296 % L) ≤ 256 * 4:=Nat.mul_le_mul (by omega) (by have:=Nat.mod_lt (x.toNat / 4294967296) (show 0 < L by omega); omega)
        have ht:(((((sl + 1) % 4 * s) + (whI (((3 * s):Nat):Int) (((x.toNat % 4294967296):Nat):Int)).toNat):Nat):Int).tmod ((4 * s:Nat):Int) = ((((((sl + 1) % 4 * s) + (whI (((3 * s):Nat):Int) (((x.toNat % 4294967296):Nat):Int)).toNat) % (4 * s)):Nat):Int):=by
          rw [Int.tmod_eq_emod_of_nonneg (by omega)]
          rfl
        exact roth_ps_else p T M L (4 * s) b c ps sl ln k s (x.toNat / 4294967296) (x.toNat / 4294967296 % L) (sl * s) (3 * s) (sl + 1) ((sl + 1) % 4) ((sl + 1) % 4 * s) ((3 * s) + k) (3 * s) (4 * s * (x.toNat / 4294967296 % L)) (x.toNat % 4294967296) ((whI (((3 * s):Nat):Int) (((x.toNat % 4294967296):Nat):Int)).toNat) ((((sl + 1) % 4 * s) + (whI (((3 * s):Nat):Int) (((x.toNat % 4294967296):Nat):Int)).toNat)) ((((sl + 1) % 4 * s) + (whI (((3 * s):Nat):Int) (((x.toNat % 4294967296):Nat):Int)).toNat) % (4 * s)) (4 * s * (x.toNat / 4294967296 % L) + ((((sl + 1) % 4 * s) + (whI (((3 * s):Nat):Int) (((x.toNat % 4294967296):Nat):Int)).toNat) % (4 * s))) x w hM a1 (by omega) a4 ⟨by omega,by rw [IntKind.wrap_i64]; omega⟩ (by show _ = _; omega) (by show _ = _; rw [IntKind.wrap_i64]; omega) ⟨by omega,by rw [Int.tmod_eq_emod_of_nonneg (by omega)]; rfl⟩ (by show _ = _; rw [hq1,IntKind.wrap_i64]; omega) (by show _ = _; rw [IntKind.wrap_i64]; omega) (by show _ = _; rw [IntKind.wrap_i64]; omega) (by show _ = _; rw [Int.tmod_eq_emod_of_nonneg (by omega)]; omega) (by show _ = _; rw [hq2,IntKind.wrap_i64]; omega) (by show _ = _; rw [← Int.natCast_mul,IntKind.wrap_i64]; omega) (by show _ = _; rw [IntKind.wrap_u32]; omega) hwn (by show _ = _; rw [IntKind.wrap_i64]; omega) ⟨by omega,ht⟩ (by show _ = _; rw [IntKind.wrap_i64]; omega) (by omega) (by omega) (by omega)
end Go.Proofs.YtfbmeclpcgdmhabDoor
