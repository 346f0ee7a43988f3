/-
  How many pages. Both seeds.
-/
import Derived.Test.YtfbmeclpcgdmhabDoorQk1
import Derived.Test.YtfbmeclpcgdmhabDoorQk35
import Derived.Test.YtfbmeclpcgdmhabDoorQk39
namespace Go.Proofs.YtfbmeclpcgdmhabDoor
open Go.RowKit Go.BigFrame
set_option linter.unusedVariables false
set_option maxRecDepth 20000 in
set_option maxHeartbeats 4000000 in
theorem pages_no (ti me la:Int) (w:World) (hp:¬ okP ti me la):Calls Tryd.prog 16 #[.agg (row 3 (pav ti me la)).toArray] w fun e w'=>e = .returned (.int .i64 0) ∧ Ext w w':=by
  replace hp:=hideit hp
  obtain ⟨c,w1,hw,hc,H0,hE⟩:=boxes1 w 3 (pav ti me la) 31
  go_enter Tryd.func16,Tryd.ntmps16
  go_upto_region 1 with (fail)
  rw [← hw.out,← hc.out]
  clear hw hc
  refine wp_region_lit ?_
  refine wpList_run rfl (.agg (row 3 (pav ti me la)).toArray) (xload 31 (.tmp 1) rfl c 0 3 _ rfl H0.out.range Tryd.underlying31 rfl infoPa) ?_
  simp only [jk,jq,jv,jy]
  refine wpList_call rfl (by simp [go_sem]) ((acheck ti me la w1 80 ⟨fun h=>absurd h hp.out,fun _=>rfl⟩).mono ?_)
  rintro e y1 ⟨rfl,hX2⟩
  refine ⟨_,rfl,?_⟩
  simp only [jk,jq,jv,jy]
  replace H0:=hideit (H0.out.carry hX2)
  replace hE:=hideit (Ext.trans hE.out hX2)
  clear hX2
  refine xm [some (.bool true)] (by kernel_rfl) (by simp [xr,go_sem]) ?_
  simp only [xw,p0,p1,p2,p3]
  go_upto_region 2 with (fail)
  refine wp_region_lit ?_
  refine xm [some (.int .i64 0)] (by kernel_rfl) (by simp [xr,go_sem]) ?_
  simp only [xw,p0,p1,p2,p3]
  go_wp2
  go_ret
  exact ⟨rfl,hE.out⟩
theorem okP_nat {ti me la:Int} (h:okP ti me la):∃ T M L:Nat,ti = (T:Int) ∧ me = (M:Int) ∧ la = (L:Int):=by
  obtain ⟨⟨h1,h2⟩,⟨h3,h4⟩,h5,h6⟩:=h
  exact ⟨ti.toNat,me.toNat,la.toNat,by omega,by omega,by omega⟩
end Go.Proofs.YtfbmeclpcgdmhabDoor
namespace Go.Proofs.YtfbmeclpcgdmhabDoor
open Go.RowKit Go.BigFrame
set_option linter.unusedVariables false
theorem okK_nat2 {n ti me la:Int} {l:Nat → Nat} (h:okK n ti me la l):∃ N T M L:Nat,n = (N:Int) ∧ ti = (T:Int) ∧ me = (M:Int) ∧ la = (L:Int):=by
  obtain ⟨⟨h1,h2⟩,⟨h3,h4⟩,h5,h6⟩:=h.2.1
  exact ⟨n.toNat,ti.toNat,me.toNat,la.toNat,by have:=h.1.1; omega,by omega,by omega,by omega⟩
end Go.Proofs.YtfbmeclpcgdmhabDoor
