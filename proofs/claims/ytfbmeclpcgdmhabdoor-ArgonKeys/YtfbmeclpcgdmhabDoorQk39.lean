/-
  The document's seed. The document's pages; its memory.
-/
import Derived.Test.YtfbmeclpcgdmhabDoorQk1
import Derived.Test.YtfbmeclpcgdmhabDoorQk35
import Derived.Test.YtfbmeclpcgdmhabDoorQk38
import Derived.Laws.AppendOwn
namespace Go.Proofs.YtfbmeclpcgdmhabDoor
open Go.RowKit Go.BigFrame
set_option linter.unusedVariables false
def GB (w0:World) (v:Value) (n:Nat) (f:Nat → BitVec 8) (X:World):Prop:=OwnB w0.heap.size 5 v n (yv f) X ∧ Ext w0 X
theorem GB.ext {w0:World} {v:Value} {n:Nat} {f:Nat → BitVec 8} {X Y:World} (h:GB w0 v n f X) (k:Ext X Y):GB w0 v n f Y:=⟨h.1.ext k,Ext.trans h.2 k⟩
theorem GB.bv {w0:World} {v:Value} {n:Nat} {f:Nat → BitVec 8} {X:World} (h:GB w0 v n f X):BV v n f X:=h.1.bv
theorem GB.form {w0:World} {v:Value} {n:Nat} {f:Nat → BitVec 8} {X:World} (h:GB w0 v n f X):∃ o c,v = .slice o n c:=h.1.bv.form
theorem GB.congr {w0:World} {v:Value} {n m:Nat} {f g:Nat → BitVec 8} {X:World} (h:GB w0 v n f X) (hn:n = m) (e:∀ j,j < n → f j = g j):GB w0 v m g X:=by
  subst hn
  exact ⟨h.1.congr fun j hj=>by simp only [yv,e j hj],h.2⟩
theorem GB.nil (w0:World) {X:World} (h:Ext w0 X) (f:Nat → BitVec 8):GB w0 (.slice none 0 0) 0 f X:=⟨own_nil _ _ _ _,h⟩
theorem GB.empty (w0:World) {X:World} (h:Ext w0 X) (f:Nat → BitVec 8):GB w0 (.slice (some ⟨X.heap.size,0,none⟩) 0 0) 0 f (X.alloc (.cells #[] 5)):=⟨own_empty X _ 5 _ (Below.size h),Below.alloc h (Below.size h) _⟩
theorem GB.of {w0:World} {v:Value} {n:Nat} {f:Nat → BitVec 8} {X Y:World} (h:Ext w0 X) (hO:OwnB X.heap.size 5 v n (yv f) Y) (k:Ext X Y):GB w0 v n f Y:=⟨hO.down (Below.size h),Ext.trans h k⟩
theorem wpList_gb {ops:Array Oper} {rest:List Oper} {o:Oper} {a:Act} {Q:Exit → Act → World → Prop} {w0 X:World} {v:Value} {n:Nat} {f:Nat → BitVec 8} (hgd:o.guard = none) (s x:Operand)
    (ho:o.op = .call { callee:=.builtin .append,args := #[s,x],argTypes := #[32,32] }) (hs:a.eval s = v) (hG:GB w0 v n f X) (xv:Value) (l:Nat) (b:Nat → BitVec 8) (hx:a.eval x = xv) (hb:BV xv l b X) (hn:n + l ≤ 140737488355328)
    (h:∀ v' X',GB w0 v' (n + l) (catF f n b) X' → wpList Tryd.prog ops Q rest (a.put o.dst v') X'):wpList Tryd.prog ops Q (o :: rest) a X:=by
  refine wpList_growV (n:=n) (base:=w0.heap.size) elem22 hgd s x ho hs hG.1 xv l b (yv (catF f n b)) hx hb (fun j hj=>by simp only [catF,yv,if_pos hj]) (fun j hj=>by simp only [catF,yv,if_neg (show ¬ n + j < n by omega),Nat.add_sub_cancel_left]) hn (Below.size hG.2) ?_
  intro v' X' hO hg
  exact h v' X' ⟨hO,Below.trans hG.2 (below_grown (Below.size hG.2) hg fun k hk=>(hG.1.lt k hk).1)⟩
theorem run_gb {w0 X:World} {n:Nat} {v:Value} {f:Nat → BitVec 8} (ty:TypeId) (h:GB w0 v n f X) (xv:Value) (m:Nat) (b:Nat → BitVec 8) (hb:BV xv m b X) (hm:0 < m) (hnm:n + m ≤ 1000000):
    ∃ v' Y,(Builtin.append_ #[32,32] ty #[v,xv]).run Tryd.prog X = .ok v' Y ∧ GB w0 v' (n + m) (catF f n b) Y:=by
  rcases hb with ⟨_,h0⟩ | ⟨ad,c,rfl,_,hl⟩
  · omega
  obtain ⟨i,z,e1,e2,e3,e4,e5⟩:=elem22.info
  obtain ⟨v',w',h1,h2,h3,_⟩:=run_append_own (P:=Tryd.prog) X w0.heap.size 32 ty 5 i z 1 1 elem22.slice e1 e2 e3 e4 e5 (by decide) v n (row n (yv f)) h.1 ad m c (row m (yv b)) (by rw [row_length,Nat.mul_one]) (fun j u hj=>by
    obtain ⟨hj',rfl⟩:=row_some hj
    exact hl.1 j hj') (fun u hu=>by
    obtain ⟨j,_,rfl⟩:=List.mem_map.1 hu
    rfl) (by unfold maxLen; omega) (by omega) (Below.size h.2)
  refine ⟨v',w',h1,?_,Below.trans h.2 (below_grown (Below.size h.2) h3 fun k hk=>(h.1.lt k hk).1)⟩
  unfold OwnB
  rw [row_append n m (yv f) (yv b) (yv (catF f n b)) (fun j hj=>by simp only [yv]; unfold catF; rw [if_pos hj]) (fun j hj=>by simp only [yv]; unfold catF; rw [if_neg (by omega),Nat.add_sub_cancel_left])] at h2
  exact h2
theorem exec_append {P:Program} {o:Oper} {a:Act} {w w':World} (s x:Operand) (t u:TypeId) (ho:o.op = .call { callee:=.builtin .append,args := #[s,x],argTypes := #[t,u] }) (v y v':Value) (hs:a.eval s = v) (hx:a.eval x = y) (hr:(Builtin.append_ #[t,u] o.type #[v,y]).run P w = .ok v' w'):(execOp a.eval o).run P w = .ok (.value v') w':=by
  unfold execOp
  simp only [ho,resolve,invoke,builtin,Sem.run_bind,Sem.run_pure,Result.andThen_ok,List.map_toArray,List.map_cons,List.map_nil,hs,hx,hr]
set_option maxRecDepth 20000 in
set_option maxHeartbeats 4000000 in
theorem right_0 (n ti me la:Int) (o:Nat → Option Addr) (l k:Nat → Nat) (w:World) (a1:¬ 4 ≤ n):Calls Tryd.prog 42 #[.int .i64 n,.agg (row 3 (pav ti me la)).toArray,.agg (row 4 (scv (.slice (o 0) (l 0) (k 0)) (.slice (o 1) (l 1) (k 1)) (.slice (o 2) (l 2) (k 2)) (.slice (o 3) (l 3) (k 3)))).toArray] w fun e w'=>e = .returned (.bool false) ∧ Ext w w':=by
  replace a1:=hideit a1
  obtain ⟨c,d,w1,hw,hd,hc,H0,H1,hE⟩:=boxes2 w 3 (pav ti me la) 31 4 (scv (.slice (o 0) (l 0) (k 0)) (.slice (o 1) (l 1) (k 1)) (.slice (o 2) (l 2) (k 2)) (.slice (o 3) (l 3) (k 3))) 34
  go_enter Tryd.func42,Tryd.ntmps42
  go_upto_region 1 with (fail)
  rw [← hd.out,← hw.out,← hc.out]
  clear hw hc hd
  refine wp_region_lit ?_
  refine xm [some (.int .i64 (n)),some (.bool false),some (.bool false),none,none,some (.bool false),some (.bool false),none,none,none,some (.bool false),some (.bool false),none,none,none,none,some (.bool false),some (.bool false),none,none,none,none,some (.bool false),some (.bool false),none,none,none,none,some (.bool false),some (.bool false),none,none,none,none,some (.bool false),some (.bool false),none,none,none,none,some (.bool false),some (.bool false)] (by kernel_rfl) (by simp [xr,go_sem,a1.out]) ?_
  simp only [xw,p0,p1,p2,p3]
  go_wp2
  go_ret
  exact ⟨rfl,hE.out⟩
set_option maxRecDepth 20000 in
set_option maxHeartbeats 4000000 in
theorem right_1 (n ti me la:Int) (o:Nat → Option Addr) (l k:Nat → Nat) (w:World) (a1:4 ≤ n) (a2:¬ n ≤ 128):Calls Tryd.prog 42 #[.int .i64 n,.agg (row 3 (pav ti me la)).toArray,.agg (row 4 (scv (.slice (o 0) (l 0) (k 0)) (.slice (o 1) (l 1) (k 1)) (.slice (o 2) (l 2) (k 2)) (.slice (o 3) (l 3) (k 3)))).toArray] w fun e w'=>e = .returned (.bool false) ∧ Ext w w':=by
  replace a1:=hideit a1
  replace a2:=hideit a2
  obtain ⟨c,d,w1,hw,hd,hc,H0,H1,hE⟩:=boxes2 w 3 (pav ti me la) 31 4 (scv (.slice (o 0) (l 0) (k 0)) (.slice (o 1) (l 1) (k 1)) (.slice (o 2) (l 2) (k 2)) (.slice (o 3) (l 3) (k 3))) 34
  go_enter Tryd.func42,Tryd.ntmps42
  go_upto_region 1 with (fail)
  rw [← hd.out,← hw.out,← hc.out]
  clear hw hc hd
  refine wp_region_lit ?_
  refine xm [some (.int .i64 (n)),some (.bool true),some (.bool true),some (.int .i64 (n)),some (.bool false),some (.bool false),some (.bool false),none,none,none,some (.bool false),some (.bool false),none,none,none,none,some (.bool false),some (.bool false),none,none,none,none,some (.bool false),some (.bool false),none,none,none,none,some (.bool false),some (.bool false),none,none,none,none,some (.bool false),some (.bool false),none,none,none,none,some (.bool false),some (.bool false)] (by kernel_rfl) (by simp [xr,go_sem,a1.out,a2.out]) ?_
  simp only [xw,p0,p1,p2,p3]
  go_wp2
  go_ret
  exact ⟨rfl,hE.out⟩
set_option maxRecDepth 20000 in
set_option maxHeartbeats 4000000 in
theorem right_2 (n ti me la:Int) (o:Nat → Option Addr) (l k:Nat → Nat) (w:World) (a1:4 ≤ n) (a2:n ≤ 128) (hp:¬ okP ti me la):Calls Tryd.prog 42 #[.int .i64 n,.agg (row 3 (pav ti me la)).toArray,.agg (row 4 (scv (.slice (o 0) (l 0) (k 0)) (.slice (o 1) (l 1) (k 1)) (.slice (o 2) (l 2) (k 2)) (.slice (o 3) (l 3) (k 3)))).toArray] w fun e w'=>e = .returned (.bool false) ∧ Ext w w':=by
  replace a1:=hideit a1
  replace a2:=hideit a2
  replace hp:=hideit hp
  obtain ⟨c,d,w1,hw,hd,hc,H0,H1,hE⟩:=boxes2 w 3 (pav ti me la) 31 4 (scv (.slice (o 0) (l 0) (k 0)) (.slice (o 1) (l 1) (k 1)) (.slice (o 2) (l 2) (k 2)) (.slice (o 3) (l 3) (k 3))) 34
  go_enter Tryd.func42,Tryd.ntmps42
  go_upto_region 1 with (fail)
  rw [← hd.out,← hw.out,← hc.out]
  clear hw hc hd
  refine wp_region_lit ?_
  refine xm [some (.int .i64 (n)),some (.bool true),some (.bool true),some (.int .i64 (n)),some (.bool true),some (.bool true),some (.bool true)] (by kernel_rfl) (by simp [xr,go_sem,a1.out,a2.out]) ?_
  simp only [xw,p0,p1,p2,p3]
  refine wpList_runW rfl (.agg (row 3 (pav ti me la)).toArray) (xload 31 (.tmp 4) rfl c 0 3 _ rfl H0.out.range Tryd.underlying31 rfl infoPa) ?_
  simp only [jk,jq,jv,jy]
  refine wpList_callW rfl (by simp [go_sem]) ((racheck ti me la w1 80 ⟨fun h=>absurd h hp.out,fun _=>rfl⟩).mono ?_)
  rintro e y1 ⟨rfl,hX2⟩
  refine ⟨_,rfl,?_⟩
  simp only [jk,jq,jv,jy]
  replace H0:=hideit (H0.out.carry hX2)
  replace H1:=hideit (H1.out.carry hX2)
  replace hE:=hideit (Ext.trans hE.out hX2)
  clear hX2
  refine xm [some (.bool false),some (.bool false),some (.bool false),none,none,none,none,some (.bool false),some (.bool false),none,none,none,none,some (.bool false),some (.bool false),none,none,none,none,some (.bool false),some (.bool false),none,none,none,none,some (.bool false),some (.bool false),none,none,none,none,some (.bool false),some (.bool false)] (by kernel_rfl) (by simp [xr,go_sem]) ?_
  simp only [xw,p0,p1,p2,p3]
  go_wp2
  go_ret
  exact ⟨rfl,hE.out⟩
set_option maxRecDepth 20000 in
set_option maxHeartbeats 4000000 in
theorem right_3 (n ti me la:Int) (o:Nat → Option Addr) (l k:Nat → Nat) (w:World) (a1:4 ≤ n) (a2:n ≤ 128) (hp:okP ti me la) (b1:¬ (l 0:Int) ≤ 512):Calls Tryd.prog 42 #[.int .i64 n,.agg (row 3 (pav ti me la)).toArray,.agg (row 4 (scv (.slice (o 0) (l 0) (k 0)) (.slice (o 1) (l 1) (k 1)) (.slice (o 2) (l 2) (k 2)) (.slice (o 3) (l 3) (k 3)))).toArray] w fun e w'=>e = .returned (.bool false) ∧ Ext w w':=by
  replace a1:=hideit a1
  replace a2:=hideit a2
  replace hp:=hideit hp
  replace b1:=hideit b1
  obtain ⟨c,d,w1,hw,hd,hc,H0,H1,hE⟩:=boxes2 w 3 (pav ti me la) 31 4 (scv (.slice (o 0) (l 0) (k 0)) (.slice (o 1) (l 1) (k 1)) (.slice (o 2) (l 2) (k 2)) (.slice (o 3) (l 3) (k 3))) 34
  go_enter Tryd.func42,Tryd.ntmps42
  go_upto_region 1 with (fail)
  rw [← hd.out,← hw.out,← hc.out]
  clear hw hc hd
  refine wp_region_lit ?_
  refine xm [some (.int .i64 (n)),some (.bool true),some (.bool true),some (.int .i64 (n)),some (.bool true),some (.bool true),some (.bool true)] (by kernel_rfl) (by simp [xr,go_sem,a1.out,a2.out]) ?_
  simp only [xw,p0,p1,p2,p3]
  refine wpList_runW rfl (.agg (row 3 (pav ti me la)).toArray) (xload 31 (.tmp 4) rfl c 0 3 _ rfl H0.out.range Tryd.underlying31 rfl infoPa) ?_
  simp only [jk,jq,jv,jy]
  refine wpList_callW rfl (by simp [go_sem]) ((racheck ti me la w1 0 ⟨fun _=>rfl,fun h=>absurd hp.out h⟩).mono ?_)
  rintro e y1 ⟨rfl,hX2⟩
  refine ⟨_,rfl,?_⟩
  simp only [jk,jq,jv,jy]
  replace H0:=hideit (H0.out.carry hX2)
  replace H1:=hideit (H1.out.carry hX2)
  replace hE:=hideit (Ext.trans hE.out hX2)
  clear hX2
  have m3:y1.cell? ⟨d,0,none⟩ = some (.slice (o 0) (l 0) (k 0)):=H1.out.1 0 (by decide)
  refine xm [some (.bool true),some (.bool true),some (.bool true),some (.pointer (some ⟨d,0,none⟩)),some (.slice (o 0) (l 0) (k 0)),some (.int .i64 ((l 0):Int)),some (.bool false),some (.bool false),some (.bool false),none,none,none,none,some (.bool false),some (.bool false),none,none,none,none,some (.bool false),some (.bool false),none,none,none,none,some (.bool false),some (.bool false),none,none,none,none,some (.bool false),some (.bool false)] (by kernel_rfl) (by simp [xr,go_sem,m3,b1.out]) ?_
  simp only [xw,p0,p1,p2,p3]
  clear m3
  go_wp2
  go_ret
  exact ⟨rfl,hE.out⟩
set_option maxRecDepth 20000 in
set_option maxHeartbeats 4000000 in
theorem right_4 (n ti me la:Int) (o:Nat → Option Addr) (l k:Nat → Nat) (w:World) (a1:4 ≤ n) (a2:n ≤ 128) (hp:okP ti me la) (b1:(l 0:Int) ≤ 512) (b2:¬ 8 ≤ (l 1:Int)):Calls Tryd.prog 42 #[.int .i64 n,.agg (row 3 (pav ti me la)).toArray,.agg (row 4 (scv (.slice (o 0) (l 0) (k 0)) (.slice (o 1) (l 1) (k 1)) (.slice (o 2) (l 2) (k 2)) (.slice (o 3) (l 3) (k 3)))).toArray] w fun e w'=>e = .returned (.bool false) ∧ Ext w w':=by
  replace a1:=hideit a1
  replace a2:=hideit a2
  replace hp:=hideit hp
  replace b1:=hideit b1
  replace b2:=hideit b2
  obtain ⟨c,d,w1,hw,hd,hc,H0,H1,hE⟩:=boxes2 w 3 (pav ti me la) 31 4 (scv (.slice (o 0) (l 0) (k 0)) (.slice (o 1) (l 1) (k 1)) (.slice (o 2) (l 2) (k 2)) (.slice (o 3) (l 3) (k 3))) 34
  go_enter Tryd.func42,Tryd.ntmps42
  go_upto_region 1 with (fail)
  rw [← hd.out,← hw.out,← hc.out]
  clear hw hc hd
  refine wp_region_lit ?_
  refine xm [some (.int .i64 (n)),some (.bool true),some (.bool true),some (.int .i64 (n)),some (.bool true),some (.bool true),some (.bool true)] (by kernel_rfl) (by simp [xr,go_sem,a1.out,a2.out]) ?_
  simp only [xw,p0,p1,p2,p3]
  refine wpList_runW rfl (.agg (row 3 (pav ti me la)).toArray) (xload 31 (.tmp 4) rfl c 0 3 _ rfl H0.out.range Tryd.underlying31 rfl infoPa) ?_
  simp only [jk,jq,jv,jy]
  refine wpList_callW rfl (by simp [go_sem]) ((racheck ti me la w1 0 ⟨fun _=>rfl,fun h=>absurd hp.out h⟩).mono ?_)
  rintro e y1 ⟨rfl,hX2⟩
  refine ⟨_,rfl,?_⟩
  simp only [jk,jq,jv,jy]
  replace H0:=hideit (H0.out.carry hX2)
  replace H1:=hideit (H1.out.carry hX2)
  replace hE:=hideit (Ext.trans hE.out hX2)
  clear hX2
  have m3:y1.cell? ⟨d,0,none⟩ = some (.slice (o 0) (l 0) (k 0)):=H1.out.1 0 (by decide)
  have m4:y1.cell? ⟨d,1,none⟩ = some (.slice (o 1) (l 1) (k 1)):=H1.out.1 1 (by decide)
  refine xm [some (.bool true),some (.bool true),some (.bool true),some (.pointer (some ⟨d,0,none⟩)),some (.slice (o 0) (l 0) (k 0)),some (.int .i64 ((l 0):Int)),some (.bool true),some (.bool true),some (.bool true),some (.pointer (some ⟨d,1,none⟩)),some (.slice (o 1) (l 1) (k 1)),some (.int .i64 ((l 1):Int)),some (.bool false),some (.bool false),some (.bool false),none,none,none,none,some (.bool false),some (.bool false),none,none,none,none,some (.bool false),some (.bool false),none,none,none,none,some (.bool false),some (.bool false)] (by kernel_rfl) (by simp [xr,go_sem,m3,b1.out,m4,b2.out]) ?_
  simp only [xw,p0,p1,p2,p3]
  clear m3
  clear m4
  go_wp2
  go_ret
  exact ⟨rfl,hE.out⟩
set_option maxRecDepth 20000 in
set_option maxHeartbeats 4000000 in
theorem right_5 (n ti me la:Int) (o:Nat → Option Addr) (l k:Nat → Nat) (w:World) (a1:4 ≤ n) (a2:n ≤ 128) (hp:okP ti me la) (b1:(l 0:Int) ≤ 512) (b2:8 ≤ (l 1:Int)) (b3:¬ (l 1:Int) ≤ 64):Calls Tryd.prog 42 #[.int .i64 n,.agg (row 3 (pav ti me la)).toArray,.agg (row 4 (scv (.slice (o 0) (l 0) (k 0)) (.slice (o 1) (l 1) (k 1)) (.slice (o 2) (l 2) (k 2)) (.slice (o 3) (l 3) (k 3)))).toArray] w fun e w'=>e = .returned (.bool false) ∧ Ext w w':=by
  replace a1:=hideit a1
  replace a2:=hideit a2
  replace hp:=hideit hp
  replace b1:=hideit b1
  replace b2:=hideit b2
  replace b3:=hideit b3
  obtain ⟨c,d,w1,hw,hd,hc,H0,H1,hE⟩:=boxes2 w 3 (pav ti me la) 31 4 (scv (.slice (o 0) (l 0) (k 0)) (.slice (o 1) (l 1) (k 1)) (.slice (o 2) (l 2) (k 2)) (.slice (o 3) (l 3) (k 3))) 34
  go_enter Tryd.func42,Tryd.ntmps42
  go_upto_region 1 with (fail)
  rw [← hd.out,← hw.out,← hc.out]
  clear hw hc hd
  refine wp_region_lit ?_
  refine xm [some (.int .i64 (n)),some (.bool true),some (.bool true),some (.int .i64 (n)),some (.bool true),some (.bool true),some (.bool true)] (by kernel_rfl) (by simp [xr,go_sem,a1.out,a2.out]) ?_
  simp only [xw,p0,p1,p2,p3]
  refine wpList_runW rfl (.agg (row 3 (pav ti me la)).toArray) (xload 31 (.tmp 4) rfl c 0 3 _ rfl H0.out.range Tryd.underlying31 rfl infoPa) ?_
  simp only [jk,jq,jv,jy]
  refine wpList_callW rfl (by simp [go_sem]) ((racheck ti me la w1 0 ⟨fun _=>rfl,fun h=>absurd hp.out h⟩).mono ?_)
  rintro e y1 ⟨rfl,hX2⟩
  refine ⟨_,rfl,?_⟩
  simp only [jk,jq,jv,jy]
  replace H0:=hideit (H0.out.carry hX2)
  replace H1:=hideit (H1.out.carry hX2)
  replace hE:=hideit (Ext.trans hE.out hX2)
  clear hX2
  have m3:y1.cell? ⟨d,0,none⟩ = some (.slice (o 0) (l 0) (k 0)):=H1.out.1 0 (by decide)
  have m4:y1.cell? ⟨d,1,none⟩ = some (.slice (o 1) (l 1) (k 1)):=H1.out.1 1 (by decide)
  refine xm [some (.bool true),some (.bool true),some (.bool true),some (.pointer (some ⟨d,0,none⟩)),some (.slice (o 0) (l 0) (k 0)),some (.int .i64 ((l 0):Int)),some (.bool true),some (.bool true),some (.bool true),some (.pointer (some ⟨d,1,none⟩)),some (.slice (o 1) (l 1) (k 1)),some (.int .i64 ((l 1):Int)),some (.bool true),some (.bool true),some (.bool true),some (.pointer (some ⟨d,1,none⟩)),some (.slice (o 1) (l 1) (k 1)),some (.int .i64 ((l 1):Int)),some (.bool false),some (.bool false),some (.bool false),none,none,none,none,some (.bool false),some (.bool false),none,none,none,none,some (.bool false),some (.bool false)] (by kernel_rfl) (by simp [xr,go_sem,m3,b1.out,m4,b2.out,b3.out]) ?_
  simp only [xw,p0,p1,p2,p3]
  clear m3
  clear m4
  go_wp2
  go_ret
  exact ⟨rfl,hE.out⟩
set_option maxRecDepth 20000 in
set_option maxHeartbeats 4000000 in
theorem right_6 (n ti me la:Int) (o:Nat → Option Addr) (l k:Nat → Nat) (w:World) (a1:4 ≤ n) (a2:n ≤ 128) (hp:okP ti me la) (b1:(l 0:Int) ≤ 512) (b2:8 ≤ (l 1:Int)) (b3:(l 1:Int) ≤ 64) (b4:¬ (l 2:Int) ≤ 64):Calls Tryd.prog 42 #[.int .i64 n,.agg (row 3 (pav ti me la)).toArray,.agg (row 4 (scv (.slice (o 0) (l 0) (k 0)) (.slice (o 1) (l 1) (k 1)) (.slice (o 2) (l 2) (k 2)) (.slice (o 3) (l 3) (k 3)))).toArray] w fun e w'=>e = .returned (.bool false) ∧ Ext w w':=by
  replace a1:=hideit a1
  replace a2:=hideit a2
  replace hp:=hideit hp
  replace b1:=hideit b1
  replace b2:=hideit b2
  replace b3:=hideit b3
  replace b4:=hideit b4
  obtain ⟨c,d,w1,hw,hd,hc,H0,H1,hE⟩:=boxes2 w 3 (pav ti me la) 31 4 (scv (.slice (o 0) (l 0) (k 0)) (.slice (o 1) (l 1) (k 1)) (.slice (o 2) (l 2) (k 2)) (.slice (o 3) (l 3) (k 3))) 34
  go_enter Tryd.func42,Tryd.ntmps42
  go_upto_region 1 with (fail)
  rw [← hd.out,← hw.out,← hc.out]
  clear hw hc hd
  refine wp_region_lit ?_
  refine xm [some (.int .i64 (n)),some (.bool true),some (.bool true),some (.int .i64 (n)),some (.bool true),some (.bool true),some (.bool true)] (by kernel_rfl) (by simp [xr,go_sem,a1.out,a2.out]) ?_
  simp only [xw,p0,p1,p2,p3]
  refine wpList_runW rfl (.agg (row 3 (pav ti me la)).toArray) (xload 31 (.tmp 4) rfl c 0 3 _ rfl H0.out.range Tryd.underlying31 rfl infoPa) ?_
  simp only [jk,jq,jv,jy]
  refine wpList_callW rfl (by simp [go_sem]) ((racheck ti me la w1 0 ⟨fun _=>rfl,fun h=>absurd hp.out h⟩).mono ?_)
  rintro e y1 ⟨rfl,hX2⟩
  refine ⟨_,rfl,?_⟩
  simp only [jk,jq,jv,jy]
  replace H0:=hideit (H0.out.carry hX2)
  replace H1:=hideit (H1.out.carry hX2)
  replace hE:=hideit (Ext.trans hE.out hX2)
  clear hX2
  have m3:y1.cell? ⟨d,0,none⟩ = some (.slice (o 0) (l 0) (k 0)):=H1.out.1 0 (by decide)
  have m4:y1.cell? ⟨d,1,none⟩ = some (.slice (o 1) (l 1) (k 1)):=H1.out.1 1 (by decide)
  have m6:y1.cell? ⟨d,2,none⟩ = some (.slice (o 2) (l 2) (k 2)):=H1.out.1 2 (by decide)
  refine xm [some (.bool true),some (.bool true),some (.bool true),some (.pointer (some ⟨d,0,none⟩)),some (.slice (o 0) (l 0) (k 0)),some (.int .i64 ((l 0):Int)),some (.bool true),some (.bool true),some (.bool true),some (.pointer (some ⟨d,1,none⟩)),some (.slice (o 1) (l 1) (k 1)),some (.int .i64 ((l 1):Int)),some (.bool true),some (.bool true),some (.bool true),some (.pointer (some ⟨d,1,none⟩)),some (.slice (o 1) (l 1) (k 1)),some (.int .i64 ((l 1):Int)),some (.bool true),some (.bool true),some (.bool true),some (.pointer (some ⟨d,2,none⟩)),some (.slice (o 2) (l 2) (k 2)),some (.int .i64 ((l 2):Int)),some (.bool false),some (.bool false),some (.bool false),none,none,none,none,some (.bool false),some (.bool false)] (by kernel_rfl) (by simp [xr,go_sem,m3,b1.out,m4,b2.out,b3.out,m6,b4.out]) ?_
  simp only [xw,p0,p1,p2,p3]
  clear m3
  clear m4
  clear m6
  go_wp2
  go_ret
  exact ⟨rfl,hE.out⟩
set_option maxRecDepth 20000 in
set_option maxHeartbeats 4000000 in
theorem right_7 (n ti me la:Int) (o:Nat → Option Addr) (l k:Nat → Nat) (w:World) (a1:4 ≤ n) (a2:n ≤ 128) (hp:okP ti me la) (b1:(l 0:Int) ≤ 512) (b2:8 ≤ (l 1:Int)) (b3:(l 1:Int) ≤ 64) (b4:(l 2:Int) ≤ 64) (b5:¬ (l 3:Int) ≤ 64):Calls Tryd.prog 42 #[.int .i64 n,.agg (row 3 (pav ti me la)).toArray,.agg (row 4 (scv (.slice (o 0) (l 0) (k 0)) (.slice (o 1) (l 1) (k 1)) (.slice (o 2) (l 2) (k 2)) (.slice (o 3) (l 3) (k 3)))).toArray] w fun e w'=>e = .returned (.bool false) ∧ Ext w w':=by
  replace a1:=hideit a1
  replace a2:=hideit a2
  replace hp:=hideit hp
  replace b1:=hideit b1
  replace b2:=hideit b2
  replace b3:=hideit b3
  replace b4:=hideit b4
  replace b5:=hideit b5
  obtain ⟨c,d,w1,hw,hd,hc,H0,H1,hE⟩:=boxes2 w 3 (pav ti me la) 31 4 (scv (.slice (o 0) (l 0) (k 0)) (.slice (o 1) (l 1) (k 1)) (.slice (o 2) (l 2) (k 2)) (.slice (o 3) (l 3) (k 3))) 34
  go_enter Tryd.func42,Tryd.ntmps42
  go_upto_region 1 with (fail)
  rw [← hd.out,← hw.out,← hc.out]
  clear hw hc hd
  refine wp_region_lit ?_
  refine xm [some (.int .i64 (n)),some (.bool true),some (.bool true),some (.int .i64 (n)),some (.bool true),some (.bool true),some (.bool true)] (by kernel_rfl) (by simp [xr,go_sem,a1.out,a2.out]) ?_
  simp only [xw,p0,p1,p2,p3]
  refine wpList_runW rfl (.agg (row 3 (pav ti me la)).toArray) (xload 31 (.tmp 4) rfl c 0 3 _ rfl H0.out.range Tryd.underlying31 rfl infoPa) ?_
  simp only [jk,jq,jv,jy]
  refine wpList_callW rfl (by simp [go_sem]) ((racheck ti me la w1 0 ⟨fun _=>rfl,fun h=>absurd hp.out h⟩).mono ?_)
  rintro e y1 ⟨rfl,hX2⟩
  refine ⟨_,rfl,?_⟩
  simp only [jk,jq,jv,jy]
  replace H0:=hideit (H0.out.carry hX2)
  replace H1:=hideit (H1.out.carry hX2)
  replace hE:=hideit (Ext.trans hE.out hX2)
  clear hX2
  have m3:y1.cell? ⟨d,0,none⟩ = some (.slice (o 0) (l 0) (k 0)):=H1.out.1 0 (by decide)
  have m4:y1.cell? ⟨d,1,none⟩ = some (.slice (o 1) (l 1) (k 1)):=H1.out.1 1 (by decide)
  have m6:y1.cell? ⟨d,2,none⟩ = some (.slice (o 2) (l 2) (k 2)):=H1.out.1 2 (by decide)
  have m7:y1.cell? ⟨d,3,none⟩ = some (.slice (o 3) (l 3) (k 3)):=H1.out.1 3 (by decide)
  refine xm [some (.bool true),some (.bool true),some (.bool true),some (.pointer (some ⟨d,0,none⟩)),some (.slice (o 0) (l 0) (k 0)),some (.int .i64 ((l 0):Int)),some (.bool true),some (.bool true),some (.bool true),some (.pointer (some ⟨d,1,none⟩)),some (.slice (o 1) (l 1) (k 1)),some (.int .i64 ((l 1):Int)),some (.bool true),some (.bool true),some (.bool true),some (.pointer (some ⟨d,1,none⟩)),some (.slice (o 1) (l 1) (k 1)),some (.int .i64 ((l 1):Int)),some (.bool true),some (.bool true),some (.bool true),some (.pointer (some ⟨d,2,none⟩)),some (.slice (o 2) (l 2) (k 2)),some (.int .i64 ((l 2):Int)),some (.bool true),some (.bool true),some (.bool true),some (.pointer (some ⟨d,3,none⟩)),some (.slice (o 3) (l 3) (k 3)),some (.int .i64 ((l 3):Int)),some (.bool false),some (.bool false),some (.bool false)] (by kernel_rfl) (by simp [xr,go_sem,m3,b1.out,m4,b2.out,b3.out,m6,b4.out,m7,b5.out]) ?_
  simp only [xw,p0,p1,p2,p3]
  clear m3
  clear m4
  clear m6
  clear m7
  go_wp2
  go_ret
  exact ⟨rfl,hE.out⟩
set_option maxRecDepth 20000 in
set_option maxHeartbeats 4000000 in
theorem right_8 (n ti me la:Int) (o:Nat → Option Addr) (l k:Nat → Nat) (w:World) (a1:4 ≤ n) (a2:n ≤ 128) (hp:okP ti me la) (b1:(l 0:Int) ≤ 512) (b2:8 ≤ (l 1:Int)) (b3:(l 1:Int) ≤ 64) (b4:(l 2:Int) ≤ 64) (b5:(l 3:Int) ≤ 64):Calls Tryd.prog 42 #[.int .i64 n,.agg (row 3 (pav ti me la)).toArray,.agg (row 4 (scv (.slice (o 0) (l 0) (k 0)) (.slice (o 1) (l 1) (k 1)) (.slice (o 2) (l 2) (k 2)) (.slice (o 3) (l 3) (k 3)))).toArray] w fun e w'=>e = .returned (.bool true) ∧ Ext w w':=by
  replace a1:=hideit a1
  replace a2:=hideit a2
  replace hp:=hideit hp
  replace b1:=hideit b1
  replace b2:=hideit b2
  replace b3:=hideit b3
  replace b4:=hideit b4
  replace b5:=hideit b5
  obtain ⟨c,d,w1,hw,hd,hc,H0,H1,hE⟩:=boxes2 w 3 (pav ti me la) 31 4 (scv (.slice (o 0) (l 0) (k 0)) (.slice (o 1) (l 1) (k 1)) (.slice (o 2) (l 2) (k 2)) (.slice (o 3) (l 3) (k 3))) 34
  go_enter Tryd.func42,Tryd.ntmps42
  go_upto_region 1 with (fail)
  rw [← hd.out,← hw.out,← hc.out]
  clear hw hc hd
  refine wp_region_lit ?_
  refine xm [some (.int .i64 (n)),some (.bool true),some (.bool true),some (.int .i64 (n)),some (.bool true),some (.bool true),some (.bool true)] (by kernel_rfl) (by simp [xr,go_sem,a1.out,a2.out]) ?_
  simp only [xw,p0,p1,p2,p3]
  refine wpList_runW rfl (.agg (row 3 (pav ti me la)).toArray) (xload 31 (.tmp 4) rfl c 0 3 _ rfl H0.out.range Tryd.underlying31 rfl infoPa) ?_
  simp only [jk,jq,jv,jy]
  refine wpList_callW rfl (by simp [go_sem]) ((racheck ti me la w1 0 ⟨fun _=>rfl,fun h=>absurd hp.out h⟩).mono ?_)
  rintro e y1 ⟨rfl,hX2⟩
  refine ⟨_,rfl,?_⟩
  simp only [jk,jq,jv,jy]
  replace H0:=hideit (H0.out.carry hX2)
  replace H1:=hideit (H1.out.carry hX2)
  replace hE:=hideit (Ext.trans hE.out hX2)
  clear hX2
  have m3:y1.cell? ⟨d,0,none⟩ = some (.slice (o 0) (l 0) (k 0)):=H1.out.1 0 (by decide)
  have m4:y1.cell? ⟨d,1,none⟩ = some (.slice (o 1) (l 1) (k 1)):=H1.out.1 1 (by decide)
  have m6:y1.cell? ⟨d,2,none⟩ = some (.slice (o 2) (l 2) (k 2)):=H1.out.1 2 (by decide)
  have m7:y1.cell? ⟨d,3,none⟩ = some (.slice (o 3) (l 3) (k 3)):=H1.out.1 3 (by decide)
  refine xm [some (.bool true),some (.bool true),some (.bool true),some (.pointer (some ⟨d,0,none⟩)),some (.slice (o 0) (l 0) (k 0)),some (.int .i64 ((l 0):Int)),some (.bool true),some (.bool true),some (.bool true),some (.pointer (some ⟨d,1,none⟩)),some (.slice (o 1) (l 1) (k 1)),some (.int .i64 ((l 1):Int)),some (.bool true),some (.bool true),some (.bool true),some (.pointer (some ⟨d,1,none⟩)),some (.slice (o 1) (l 1) (k 1)),some (.int .i64 ((l 1):Int)),some (.bool true),some (.bool true),some (.bool true),some (.pointer (some ⟨d,2,none⟩)),some (.slice (o 2) (l 2) (k 2)),some (.int .i64 ((l 2):Int)),some (.bool true),some (.bool true),some (.bool true),some (.pointer (some ⟨d,3,none⟩)),some (.slice (o 3) (l 3) (k 3)),some (.int .i64 ((l 3):Int)),some (.bool true),some (.bool true),some (.bool true)] (by kernel_rfl) (by simp [xr,go_sem,m3,b1.out,m4,b2.out,b3.out,m6,b4.out,m7,b5.out]) ?_
  simp only [xw,p0,p1,p2,p3]
  clear m3
  clear m4
  clear m6
  clear m7
  go_wp2
  go_ret
  exact ⟨rfl,hE.out⟩
theorem right_yes (n ti me la:Int) (o:Nat → Option Addr) (l k:Nat → Nat) (w:World) (h:okK n ti me la l):Calls Tryd.prog 42 #[.int .i64 n,.agg (row 3 (pav ti me la)).toArray,.agg (row 4 (scv (.slice (o 0) (l 0) (k 0)) (.slice (o 1) (l 1) (k 1)) (.slice (o 2) (l 2) (k 2)) (.slice (o 3) (l 3) (k 3)))).toArray] w fun e w'=>e = .returned (.bool true) ∧ Ext w w':=by
  obtain ⟨⟨a1,a2⟩,hp,q0,⟨q1,q2⟩,q3,q4⟩:=h
  exact right_8 n ti me la o l k w a1 a2 hp (by omega) (by omega) (by omega) (by omega) (by omega)
theorem right_no (n ti me la:Int) (o:Nat → Option Addr) (l k:Nat → Nat) (w:World) (h:¬ okK n ti me la l):Calls Tryd.prog 42 #[.int .i64 n,.agg (row 3 (pav ti me la)).toArray,.agg (row 4 (scv (.slice (o 0) (l 0) (k 0)) (.slice (o 1) (l 1) (k 1)) (.slice (o 2) (l 2) (k 2)) (.slice (o 3) (l 3) (k 3)))).toArray] w fun e w'=>e = .returned (.bool false) ∧ Ext w w':=by
  by_cases a1:4 ≤ n
  · by_cases a2:n ≤ 128
    · by_cases hp:okP ti me la
      · by_cases b1:(l 0:Int) ≤ 512
        · by_cases b2:8 ≤ (l 1:Int)
          · by_cases b3:(l 1:Int) ≤ 64
            · by_cases b4:(l 2:Int) ≤ 64
              · by_cases b5:(l 3:Int) ≤ 64
                · exact absurd ⟨⟨a1,a2⟩,hp,by omega,⟨by omega,by omega⟩,by omega,by omega⟩ h
                · exact right_7 n ti me la o l k w a1 a2 hp b1 b2 b3 b4 b5
              · exact right_6 n ti me la o l k w a1 a2 hp b1 b2 b3 b4
            · exact right_5 n ti me la o l k w a1 a2 hp b1 b2 b3
          · exact right_4 n ti me la o l k w a1 a2 hp b1 b2
        · exact right_3 n ti me la o l k w a1 a2 hp b1
      · exact right_2 n ti me la o l k w a1 a2 hp
    · exact right_1 n ti me la o l k w a1 a2
  · exact right_0 n ti me la o l k w a1
set_option maxRecDepth 20000 in
set_option maxHeartbeats 4000000 in
theorem text_any (u:Value) (l:Nat) (f:Nat → BitVec 8) (w:World) (hu:BV u l f w) (hl:l ≤ 100000):Calls Tryd.prog 43 #[u] w fun e w'=>∃ v,e = .returned v ∧ GB w v (4 + l) (catF (fourB l) 4 f) w':=by
  obtain ⟨uo,uc,rfl⟩:=hu.slc
  replace hu:=hideit hu
  have hE:=hideit (Ext.refl w)
  go_enter Tryd.func43,Tryd.ntmps43
  go_upto_region 1 with (fail)
  refine wp_region_lit ?_
  refine xm [some (.slice uo l uc),some (.int .i64 (l:Int))] (by kernel_rfl) (by simp [xr,go_sem]) ?_
  simp only [xw,p0,p1,p2,p3]
  refine wpList_call rfl (by simp [go_sem]) ((rfour_any l (by omega) w).mono ?_)
  rintro e x1 ⟨v4,rfl,hO,hX1⟩
  refine ⟨_,rfl,?_⟩
  simp only [jk,jq,jv,jy]
  replace hu:=hideit (hu.out.ext hX1)
  replace hE:=hideit (Ext.trans hE.out hX1)
  have hG:=hideit (GB.of (Ext.refl w) hO hX1)
  clear hO hX1
  refine xm [some (.slice uo l uc)] (by kernel_rfl) (by simp [xr,go_sem]) ?_
  simp only [xw,p0,p1,p2,p3]
  refine wpList_gb rfl (.tmp 5) (.tmp 6) rfl rfl hG.out (.slice uo l uc) l f rfl hu.out (by omega) ?_
  intro v5 x5 hG5
  simp only [jk,jq,jv,jy]
  refine xm [some (v5)] (by kernel_rfl) (by simp [xr,go_sem]) ?_
  simp only [xw,p0,p1,p2,p3]
  go_wp2
  go_ret
  exact ⟨v5,rfl,hG5⟩
set_option maxRecDepth 20000 in
set_option maxHeartbeats 4000000 in
theorem rseed_no (n ti me la:Int) (o:Nat → Option Addr) (l k:Nat → Nat) (w:World) (h:¬ okK n ti me la l):Calls Tryd.prog 19 #[.int .i64 n,.agg (row 3 (pav ti me la)).toArray,.agg (row 4 (scv (.slice (o 0) (l 0) (k 0)) (.slice (o 1) (l 1) (k 1)) (.slice (o 2) (l 2) (k 2)) (.slice (o 3) (l 3) (k 3)))).toArray] w fun e w'=>e = .returned (.tuple #[.slice none 0 0,.int .i64 80]) ∧ Ext w w':=by
  obtain ⟨c,d,w1,hw,hd,hc,H0,H1,hE⟩:=boxes2 w 3 (pav ti me la) 31 4 (scv (.slice (o 0) (l 0) (k 0)) (.slice (o 1) (l 1) (k 1)) (.slice (o 2) (l 2) (k 2)) (.slice (o 3) (l 3) (k 3))) 34
  go_enter Tryd.func19,Tryd.ntmps19
  go_upto_region 1 with (fail)
  rw [← hd.out,← hw.out,← hc.out]
  clear hw hc hd
  refine wp_region_lit ?_
  refine xm [some (.int .i64 (n))] (by kernel_rfl) (by simp [xr,go_sem]) ?_
  simp only [xw,p0,p1,p2,p3]
  refine wpList_run rfl (.agg (row 3 (pav ti me la)).toArray) (xload 31 (.tmp 4) rfl c 0 3 _ rfl H0.out.range Tryd.underlying31 rfl infoPa) ?_
  simp only [jk,jq,jv,jy]
  refine wpList_run rfl (.agg (row 4 (scv (.slice (o 0) (l 0) (k 0)) (.slice (o 1) (l 1) (k 1)) (.slice (o 2) (l 2) (k 2)) (.slice (o 3) (l 3) (k 3)))).toArray) (xload 34 (.tmp 5) rfl d 0 4 _ rfl H1.out.range Tryd.underlying34 rfl infoSc) ?_
  simp only [jk,jq,jv,jy]
  refine wpList_call rfl (by simp [go_sem]) ((right_no n ti me la o l k w1 h).mono ?_)
  rintro e y1 ⟨rfl,hX2⟩
  refine ⟨_,rfl,?_⟩
  simp only [jk,jq,jv,jy]
  replace H0:=hideit (H0.out.carry hX2)
  replace H1:=hideit (H1.out.carry hX2)
  replace hE:=hideit (Ext.trans hE.out hX2)
  clear hX2
  refine xm [some (.bool true)] (by kernel_rfl) (by simp [xr,go_sem]) ?_
  simp only [xw,p0,p1,p2,p3]
  go_upto_region 2 with (fail)
  refine wp_region_lit ?_
  refine xm [some (.slice none 0 0),some (.int .i64 80)] (by kernel_rfl) (by simp [xr,go_sem]) ?_
  simp only [xw,p0,p1,p2,p3]
  go_wp2
  refine bodyPost_ret (res2 rfl _ _ _) rfl ?_
  exact ⟨rfl,hE.out⟩
theorem allF_succ (ls:Nat → Nat) (bs:Nat → Nat → BitVec 8) (k:Nat):allF ls bs (k + 1) = catF (allF ls bs k) (sumL ls k) (bs k):=by
  show catF (joinF (fun _=>0#8) 0 ls bs k) (0 + sumL ls k) (bs k) = _
  rw [Nat.zero_add]
  rfl
theorem sd_sum (l:Nat → Nat):∀ j,j ≤ 6 → sumL (sdL l) j = 4 * j
  | 0,_=>rfl
  | j + 1,h=>by
    show sumL (sdL l) j + sdL l j = _
    rw [sd_sum l j (by omega)]
    unfold sdL
    rw [if_pos (by omega)]
    omega
theorem sd_step (l:Nat → Nat) (i:Nat) (hi:i < 4):sdL l (6 + 2 * i) = 4 ∧ sdL l (6 + 2 * i + 1) = l i:=by
  unfold sdL
  rw [if_neg (by omega),if_pos (by omega),if_neg (by omega),if_neg (by omega),show (6 + 2 * i + 1 - 6) / 2 = i by omega]
  exact ⟨rfl,rfl⟩
theorem sd_stepB (n T M L:Nat) (l:Nat → Nat) (f:Nat → Nat → BitVec 8) (i:Nat) (hi:i < 4):sdB n T M L l f (6 + 2 * i) = fourB (l i) ∧ sdB n T M L l f (6 + 2 * i + 1) = f i:=by
  unfold sdB
  rw [if_neg (by omega),if_pos (by omega),if_neg (by omega),if_neg (by omega),show (6 + 2 * i + 1 - 6) / 2 = i by omega,show (6 + 2 * i - 6) / 2 = i by omega]
  exact ⟨rfl,rfl⟩
theorem sd_two2 (l:Nat → Nat) (i:Nat) (hi:i < 4):sumL (sdL l) (6 + 2 * i + 2) = sumL (sdL l) (6 + 2 * i) + (4 + l i):=by
  obtain ⟨h1,h2⟩:=sd_step l i hi
  show sumL (sdL l) (6 + 2 * i) + sdL l (6 + 2 * i) + sdL l (6 + 2 * i + 1) = _
  rw [h1,h2]
  omega
theorem sd_all2 (n T M L:Nat) (l:Nat → Nat) (f:Nat → Nat → BitVec 8) (i:Nat) (hi:i < 4):allF (sdL l) (sdB n T M L l f) (6 + 2 * i + 2) = catF (allF (sdL l) (sdB n T M L l f) (6 + 2 * i)) (sumL (sdL l) (6 + 2 * i)) (catF (fourB (l i)) 4 (f i)):=by
  obtain ⟨h1,h2⟩:=sd_stepB n T M L l f i hi
  obtain ⟨g1,_⟩:=sd_step l i hi
  rw [show 6 + 2 * i + 2 = 6 + 2 * i + 1 + 1 from rfl,allF_succ,allF_succ,h1,h2]
  show catF (catF _ _ (fourB (l i))) (sumL (sdL l) (6 + 2 * i) + sdL l (6 + 2 * i)) (f i) = _
  rw [g1]
  funext j
  unfold catF
  by_cases c1:j < sumL (sdL l) (6 + 2 * i)
  · rw [if_pos (by omega),if_pos c1,if_pos c1]
  · by_cases c2:j < sumL (sdL l) (6 + 2 * i) + 4
    · rw [if_pos c2,if_neg c1,if_neg c1,if_pos (by omega)]
    · rw [if_neg c2,if_neg c1,if_neg (by omega),show j - (sumL (sdL l) (6 + 2 * i) + 4) = j - sumL (sdL l) (6 + 2 * i) - 4 by omega]
theorem sd_len (l:Nat → Nat):sumL (sdL l) 14 = 4 * 6 + (4 + l 0) + (4 + l 1) + (4 + l 2) + (4 + l 3):=by
  rw [show (14:Nat) = 6 + 2 * 3 + 2 from rfl,sd_two2 l 3 (by decide),show (6 + 2 * 3:Nat) = 6 + 2 * 2 + 2 from rfl,sd_two2 l 2 (by decide),show (6 + 2 * 2:Nat) = 6 + 2 * 1 + 2 from rfl,sd_two2 l 1 (by decide),show (6 + 2 * 1:Nat) = 6 + 2 * 0 + 2 from rfl,sd_two2 l 0 (by decide),show (6 + 2 * 0:Nat) = 6 from rfl,sd_sum l 6 (by decide)]
theorem sd_cat (n T M L:Nat) (l:Nat → Nat) (f:Nat → Nat → BitVec 8) (j:Nat):allF (sdL l) (sdB n T M L l f) 14 j = catF (catF (catF (catF (allF (sdL l) (sdB n T M L l f) 6) (4 * 6) (catF (fourB (l 0)) 4 (f 0))) (4 * 6 + (4 + l 0)) (catF (fourB (l 1)) 4 (f 1))) (4 * 6 + (4 + l 0) + (4 + l 1)) (catF (fourB (l 2)) 4 (f 2))) (4 * 6 + (4 + l 0) + (4 + l 1) + (4 + l 2)) (catF (fourB (l 3)) 4 (f 3)) j:=by
  have e6:sumL (sdL l) 6 = 4 * 6:=sd_sum l 6 (by decide)
  have e8:sumL (sdL l) 8 = 4 * 6 + (4 + l 0):=by rw [show (8:Nat) = 6 + 2 * 0 + 2 from rfl,sd_two2 l 0 (by decide),show (6 + 2 * 0:Nat) = 6 from rfl,e6]
  have e10:sumL (sdL l) 10 = 4 * 6 + (4 + l 0) + (4 + l 1):=by rw [show (10:Nat) = 6 + 2 * 1 + 2 from rfl,sd_two2 l 1 (by decide),show (6 + 2 * 1:Nat) = 8 from rfl,e8]
  have e12:sumL (sdL l) 12 = 4 * 6 + (4 + l 0) + (4 + l 1) + (4 + l 2):=by rw [show (12:Nat) = 6 + 2 * 2 + 2 from rfl,sd_two2 l 2 (by decide),show (6 + 2 * 2:Nat) = 10 from rfl,e10]
  have a8:allF (sdL l) (sdB n T M L l f) 8 = catF (allF (sdL l) (sdB n T M L l f) 6) (sumL (sdL l) 6) (catF (fourB (l 0)) 4 (f 0)):=sd_all2 n T M L l f 0 (by decide)
  have a10:allF (sdL l) (sdB n T M L l f) 10 = catF (allF (sdL l) (sdB n T M L l f) 8) (sumL (sdL l) 8) (catF (fourB (l 1)) 4 (f 1)):=sd_all2 n T M L l f 1 (by decide)
  have a12:allF (sdL l) (sdB n T M L l f) 12 = catF (allF (sdL l) (sdB n T M L l f) 10) (sumL (sdL l) 10) (catF (fourB (l 2)) 4 (f 2)):=sd_all2 n T M L l f 2 (by decide)
  have a14:allF (sdL l) (sdB n T M L l f) 14 = catF (allF (sdL l) (sdB n T M L l f) 12) (sumL (sdL l) 12) (catF (fourB (l 3)) 4 (f 3)):=sd_all2 n T M L l f 3 (by decide)
  rw [a14,e12,a12,e10,a10,e8,a8,e6]
set_option maxRecDepth 20000 in
set_option maxHeartbeats 4000000 in
theorem rseed_ok (n T M L:Nat) (o:Nat → Option Addr) (l k:Nat → Nat) (f:Nat → Nat → BitVec 8) (w:World) (hk:okK (n:Int) (T:Int) (M:Int) (L:Int) l) (hb:∀ i,i < 4 → BV (.slice (o i) (l i) (k i)) (l i) (f i) w):Calls Tryd.prog 19 #[.int .i64 (n:Int),.agg (row 3 (pav (T:Int) (M:Int) (L:Int))).toArray,.agg (row 4 (scv (.slice (o 0) (l 0) (k 0)) (.slice (o 1) (l 1) (k 1)) (.slice (o 2) (l 2) (k 2)) (.slice (o 3) (l 3) (k 3)))).toArray] w fun e w'=>∃ v,e = .returned (.tuple #[v,.int .i64 0]) ∧ OwnB w.heap.size 5 v 64 (yv (sdF n T M L l f)) w' ∧ Ext w w':=by
  have hsm:Hid (n ≤ 128 ∧ T ≤ 8 ∧ M ≤ 256 ∧ L ≤ 4):=⟨by have:=hk.1.2; omega,by have:=hk.2.1.1.2; omega,by have:=hk.2.1.2.2.2; omega,by have:=hk.2.1.2.1.2; omega⟩
  have hls:Hid (∀ i,i < 4 → l i ≤ 512):=fun i hi=>by
    obtain ⟨q0,⟨_,q1⟩,q2,q3⟩:=hk.2.2
    rcases (by omega:i = 0 ∨ i = 1 ∨ i = 2 ∨ i = 3) with e | e | e | e <;> (rw [e]; omega)
  replace hk:=hideit hk
  replace hb:=hideit hb
  obtain ⟨c,d,w1,hw,hd,hc,H0,H1,hE⟩:=boxes2 w 3 (pav (T:Int) (M:Int) (L:Int)) 31 4 (scv (.slice (o 0) (l 0) (k 0)) (.slice (o 1) (l 1) (k 1)) (.slice (o 2) (l 2) (k 2)) (.slice (o 3) (l 3) (k 3))) 34
  go_enter Tryd.func19,Tryd.ntmps19
  go_upto_region 1 with (fail)
  rw [← hd.out,← hw.out,← hc.out]
  clear hw hc hd
  refine wp_region_lit ?_
  refine xm [some (.int .i64 (n:Int))] (by kernel_rfl) (by simp [xr,go_sem]) ?_
  simp only [xw,p0,p1,p2,p3]
  refine wpList_run rfl (.agg (row 3 (pav (T:Int) (M:Int) (L:Int))).toArray) (xload 31 (.tmp 4) rfl c 0 3 _ rfl H0.out.range Tryd.underlying31 rfl infoPa) ?_
  simp only [jk,jq,jv,jy]
  refine wpList_run rfl (.agg (row 4 (scv (.slice (o 0) (l 0) (k 0)) (.slice (o 1) (l 1) (k 1)) (.slice (o 2) (l 2) (k 2)) (.slice (o 3) (l 3) (k 3)))).toArray) (xload 34 (.tmp 5) rfl d 0 4 _ rfl H1.out.range Tryd.underlying34 rfl infoSc) ?_
  simp only [jk,jq,jv,jy]
  refine wpList_call rfl (by simp [go_sem]) ((right_yes (n:Int) (T:Int) (M:Int) (L:Int) o l k w1 hk.out).mono ?_)
  rintro e y1 ⟨rfl,hX2⟩
  refine ⟨_,rfl,?_⟩
  simp only [jk,jq,jv,jy]
  replace H0:=hideit (H0.out.carry hX2)
  replace H1:=hideit (H1.out.carry hX2)
  replace hE:=hideit (Ext.trans hE.out hX2)
  clear hX2
  refine xm [some (.bool false)] (by kernel_rfl) (by simp [xr,go_sem]) ?_
  simp only [xw,p0,p1,p2,p3]
  go_upto_region 4 with (fail)
  refine wp_region_lit ?_
  have m3:y1.cell? ⟨c,2,none⟩ = some (.int .i64 (L:Int)):=H0.out.1 2 (by decide)
  have m4:y1.cell? ⟨c,1,none⟩ = some (.int .i64 (M:Int)):=H0.out.1 1 (by decide)
  have m5:y1.cell? ⟨c,0,none⟩ = some (.int .i64 (T:Int)):=H0.out.1 0 (by decide)
  refine xm [some (.pointer (some ⟨c,2,none⟩)),some (.int .i64 (L:Int)),some (.int .i64 (n:Int)),some (.pointer (some ⟨c,1,none⟩)),some (.int .i64 (M:Int)),some (.pointer (some ⟨c,0,none⟩)),some (.int .i64 (T:Int))] (by kernel_rfl) (by simp [xr,go_sem,m3,m4,m5]) ?_
  simp only [xw,p0,p1,p2,p3]
  clear m3
  clear m4
  clear m5
  have H6:Hid (RowAt y1.heap.size 6 (fun i=>Value.int .i64 ((sdV n T M L i:Nat):Int)) (y1.alloc (.cells #[.int .i64 (L:Int),.int .i64 (n:Int),.int .i64 (M:Int),.int .i64 (T:Int),.int .i64 19,.int .i64 2] 3))):=RowAt.new y1 6 (fun i=>Value.int .i64 ((sdV n T M L i:Nat):Int)) 3
  have XN:Ext y1 (y1.alloc (.cells #[.int .i64 (L:Int),.int .i64 (n:Int),.int .i64 (M:Int),.int .i64 (T:Int),.int .i64 19,.int .i64 2] 3)):=(Below.refl _ _).alloc (Nat.le_refl _) _
  refine wpList_to rfl (.slice (some ⟨y1.heap.size,0,none⟩) 6 6) (y1.alloc (.cells #[.int .i64 (L:Int),.int .i64 (n:Int),.int .i64 (M:Int),.int .i64 (T:Int),.int .i64 19,.int .i64 2] 3)) (by simp [go_sem]) ?_
  simp only [jk,jq,jv,jy]
  replace H1:=hideit (H1.out.carry XN)
  replace hE:=hideit (Ext.trans hE.out XN)
  clear XN H0
  generalize y1.alloc (.cells #[.int .i64 (L:Int),.int .i64 (n:Int),.int .i64 (M:Int),.int .i64 (T:Int),.int .i64 19,.int .i64 2] 3) = x6 at H6 H1 hE ⊢
  obtain ⟨g6,e6⟩:∃ g,g = y1.heap.size:=⟨_,rfl⟩
  rw [← e6] at H6 ⊢
  clear e6
  refine xm [some (.slice (some ⟨g6,0,none⟩) 6 6)] (by kernel_rfl) (by simp [xr,go_sem]) ?_
  simp only [xw,p0,p1,p2,p3]
  go_upto_region 6 with (fail)
  go_loopw [8,10] (fun v i X=>∃ j:Nat,j ≤ 6 ∧ i = .int .i64 (j:Int) ∧ GB x6 v (4 * j) (allF (sdL l) (sdB n T M L l f) j) X) (fun _ i _=>100 - (intOf i).toNat)
  case atStart=>exact ⟨0,Nat.zero_le _,rfl,GB.nil x6 (Ext.refl _) _⟩
  case round=>
    obtain ⟨j,hj,rfl,hG⟩:=hrel
    obtain ⟨go,gc,rfl⟩:=hG.form
    by_cases hlt:j < 6
    · have k1:(j:Int) < 6:=by omega
      have ek:IntKind.i64.wrap ((j:Int) + 1) = ((j + 1:Nat):Int):=by rw [IntKind.wrap_i64]; omega
      have cj:wr.cell? ⟨g6,j,none⟩ = some (.int .i64 ((sdV n T M L j:Nat):Int)):=(H6.out.carry hG.2).1 j hlt
      have nvs:Hid (sdV n T M L j ≤ 4611686018427387904):=sdV_small j hsm.out
      obtain ⟨nv,hnv⟩:∃ v,v = sdV n T M L j:=⟨_,rfl⟩
      rw [← hnv] at cj nvs
      replace hnv:=hideit hnv
      have hX:=hideit hG.2
      replace hG:=hideit hG
      go_upto_region 6 with (fail)
      refine wp_region_lit ?_
      refine xm [some (.int .i64 (j:Int)),some (.bool true)] (by kernel_rfl) (by simp [xr,go_sem,k1]) ?_
      simp only [xw,p0,p1,p2,p3]
      go_upto_region 8 with (fail)
      refine wp_region_lit ?_
      refine xm [some (.slice go (4 * j) gc),some (.slice (some ⟨g6,0,none⟩) 6 6),some (.int .i64 (j:Int)),some (.pointer (some ⟨g6,j,none⟩)),some (.int .i64 (nv:Int))] (by kernel_rfl) (by simp [xr,go_sem,k1,add00,cj]) ?_
      simp only [xw,p0,p1,p2,p3]
      refine wpList_call rfl (by simp [go_sem]) ((rfour_any nv nvs.out wr).mono ?_)
      rintro e x1 ⟨v4,rfl,hO,hX1⟩
      refine ⟨_,rfl,?_⟩
      simp only [jk,jq,jv,jy]
      replace hG:=hideit (hG.out.ext hX1)
      replace hX:=hideit (Ext.trans hX.out hX1)
      have hbv:=hideit (GB.bv (GB.of (Ext.refl wr) hO hX1))
      clear hO hX1
      refine wpList_gb rfl (.tmp 28) (.tmp 33) rfl rfl hG.out v4 4 (fourB nv) rfl hbv.out (by omega) ?_
      intro v5 x5 hG5
      simp only [jk,jq,jv,jy]
      replace hG5:Hid (GB x6 v5 (4 * (j + 1)) (allF (sdL l) (sdB n T M L l f) (j + 1)) x5):=hG5.congr (by omega) fun z hz=>by
        rw [allF_succ,sd_sum l j (by omega),show sdB n T M L l f j = fourB nv from by unfold sdB; rw [if_pos hlt,hnv.out]]
      clear hG hX hbv
      refine xm [some (v5)] (by kernel_rfl) (by simp [xr,go_sem]) ?_
      simp only [xw,p0,p1,p2,p3]
      go_upto_region 7 with (fail)
      refine wp_region_lit ?_
      refine xm [some (.int .i64 (j:Int)),some (.int .i64 ((j + 1:Nat):Int)),some (.int .i64 ((j + 1:Nat):Int))] (by kernel_rfl) (by simp [xr,go_sem,ek]) ?_
      simp only [xw,p0,p1,p2,p3]
      go_wp2
      exact ⟨⟨j + 1,by omega,rfl,hG5.out⟩,by simp [intOf]; omega⟩
    · obtain rfl:j = 6:=by omega
      have hX:=hideit hG.2
      have hEw:=hideit (Ext.trans hE.out hG.2)
      replace hG:=hideit hG
      go_upto_region 6 with (fail)
      refine wp_region_lit ?_
      refine xm [some (.int .i64 ((6:Nat):Int)),some (.bool false)] (by kernel_rfl) (by simp [xr,go_sem]) ?_
      simp only [xw,p0,p1,p2,p3]
      go_upto_region 9 with (fail)
      have hG0:Hid (GB x6 (.slice go (4 * 6) gc) (4 * 6) (allF (sdL l) (sdB n T M L l f) 6) wr.drew):=hG.out.ext (Ext.draw (Ext.refl wr))
      refine wp_region_lad (fun X=>Ext x6 X) [(false,0),(false,1),(false,2),(false,5),(false,6),(false,9),(false,10),(false,13),(false,14),(true,3),(true,4),(true,7),(true,8),(true,11),(true,12),(true,15),(true,16),(false,17)] (by kernel_rfl) (by kernel_rfl) (by decide +kernel) (by decide +kernel) (by decide +kernel) (by decide +kernel) hG0.out.2 ?_
      refine wpX_f _ (.slice go (4 * 6) gc) rfl rfl (fun X hX=>by simp [go_sem]) ?_
      simp only [List.getElem_toArray,List.getElem_cons_zero,Act.put,List.setIfInBounds_toArray,List.set_cons_zero,List.set_cons_succ]
      refine wpX_f _ (.pointer (some ⟨d,0,none⟩)) rfl rfl (fun X hX=>by simp [go_sem]) ?_
      simp only [jw,jz,kj,jk,jq,jv,jy]
      refine wpX_f _ (.slice (o 0) (l 0) (k 0)) rfl rfl (fun X hX=>by have q:X.cell? ⟨d,0,none⟩ = some (.slice (o 0) (l 0) (k 0)):=(H1.out.carry hX).1 0 (by decide); simp [go_sem,q]) ?_
      simp only [jw,jz,kj,jk,jq,jv,jy]
      refine wpX_f _ (.pointer (some ⟨d,1,none⟩)) rfl rfl (fun X hX=>by simp [go_sem]) ?_
      simp only [jw,jz,kj,jk,jq,jv,jy]
      refine wpX_f _ (.slice (o 1) (l 1) (k 1)) rfl rfl (fun X hX=>by have q:X.cell? ⟨d,1,none⟩ = some (.slice (o 1) (l 1) (k 1)):=(H1.out.carry hX).1 1 (by decide); simp [go_sem,q]) ?_
      simp only [jw,jz,kj,jk,jq,jv,jy]
      refine wpX_f _ (.pointer (some ⟨d,2,none⟩)) rfl rfl (fun X hX=>by simp [go_sem]) ?_
      simp only [jw,jz,kj,jk,jq,jv,jy]
      refine wpX_f _ (.slice (o 2) (l 2) (k 2)) rfl rfl (fun X hX=>by have q:X.cell? ⟨d,2,none⟩ = some (.slice (o 2) (l 2) (k 2)):=(H1.out.carry hX).1 2 (by decide); simp [go_sem,q]) ?_
      simp only [jw,jz,kj,jk,jq,jv,jy]
      refine wpX_f _ (.pointer (some ⟨d,3,none⟩)) rfl rfl (fun X hX=>by simp [go_sem]) ?_
      simp only [jw,jz,kj,jk,jq,jv,jy]
      refine wpX_f _ (.slice (o 3) (l 3) (k 3)) rfl rfl (fun X hX=>by have q:X.cell? ⟨d,3,none⟩ = some (.slice (o 3) (l 3) (k 3)):=(H1.out.carry hX).1 3 (by decide); simp [go_sem,q]) ?_
      simp only [jw,jz,kj,jk,jq,jv,jy]
      have hu0:=hideit ((hb.out 0 (by decide)).ext (Ext.trans hE.out hG0.out.2))
      refine wpX_call _ rfl rfl (by simp [go_sem]) ((text_any (.slice (o 0) (l 0) (k 0)) (l 0) (f 0) _ hu0.out (by have:=hls.out 0 (by decide); omega)).mono ?_)
      rintro e t0 ⟨w0,rfl,hT0⟩
      refine ⟨_,rfl,fun X=>Ext x6 X,fun X hX=>hX,Ext.trans hG0.out.2 hT0.2,?_⟩
      simp only [jw,jz,kj,jk,jq,jv,jy]
      have hp0:=hideit ((hG0.out).ext hT0.2)
      obtain ⟨u0,s0,r0,hG1⟩:=run_gb 32 hp0.out w0 (4 + l 0) (catF (fourB (l 0)) 4 (f 0)) hT0.bv (by omega) (by have:=hls.out 0 (by decide); have:=hls.out 1 (by decide); have:=hls.out 2 (by decide); have:=hls.out 3 (by decide); omega)
      refine wpX_to _ u0 s0 rfl rfl (exec_append (.tmp 35) (.tmp 38) 32 32 rfl _ _ _ rfl rfl r0) (fun X=>Ext x6 X) (fun X hX=>hX) hG1.2 ?_
      simp only [jw,jz,kj,jk,jq,jv,jy]
      replace hG1:Hid (GB x6 u0 (4 * 6 + (4 + l 0)) (catF (allF (sdL l) (sdB n T M L l f) 6) (4 * 6) (catF (fourB (l 0)) 4 (f 0))) s0):=hG1
      obtain ⟨F1,hF1⟩:∃ F,F = catF (allF (sdL l) (sdB n T M L l f) 6) (4 * 6) (catF (fourB (l 0)) 4 (f 0)):=⟨_,rfl⟩
      rw [← hF1] at hG1
      replace hF1:=hideit hF1
      clear r0 hp0 hu0 hT0
      have hu1:=hideit ((hb.out 1 (by decide)).ext (Ext.trans hE.out hG1.out.2))
      refine wpX_call _ rfl rfl (by simp [go_sem]) ((text_any (.slice (o 1) (l 1) (k 1)) (l 1) (f 1) _ hu1.out (by have:=hls.out 1 (by decide); omega)).mono ?_)
      rintro e t1 ⟨w1,rfl,hT1⟩
      refine ⟨_,rfl,fun X=>Ext x6 X,fun X hX=>hX,Ext.trans hG1.out.2 hT1.2,?_⟩
      simp only [jw,jz,kj,jk,jq,jv,jy]
      have hp1:=hideit ((hG1.out).ext hT1.2)
      obtain ⟨u1,s1,r1,hG2⟩:=run_gb 32 hp1.out w1 (4 + l 1) (catF (fourB (l 1)) 4 (f 1)) hT1.bv (by omega) (by have:=hls.out 0 (by decide); have:=hls.out 1 (by decide); have:=hls.out 2 (by decide); have:=hls.out 3 (by decide); omega)
      refine wpX_to _ u1 s1 rfl rfl (exec_append (.tmp 39) (.tmp 42) 32 32 rfl _ _ _ rfl rfl r1) (fun X=>Ext x6 X) (fun X hX=>hX) hG2.2 ?_
      simp only [jw,jz,kj,jk,jq,jv,jy]
      replace hG2:Hid (GB x6 u1 (4 * 6 + (4 + l 0) + (4 + l 1)) (catF (F1) (4 * 6 + (4 + l 0)) (catF (fourB (l 1)) 4 (f 1))) s1):=hG2
      obtain ⟨F2,hF2⟩:∃ F,F = catF (F1) (4 * 6 + (4 + l 0)) (catF (fourB (l 1)) 4 (f 1)):=⟨_,rfl⟩
      rw [← hF2] at hG2
      replace hF2:=hideit hF2
      clear r1 hp1 hu1 hT1
      have hu2:=hideit ((hb.out 2 (by decide)).ext (Ext.trans hE.out hG2.out.2))
      refine wpX_call _ rfl rfl (by simp [go_sem]) ((text_any (.slice (o 2) (l 2) (k 2)) (l 2) (f 2) _ hu2.out (by have:=hls.out 2 (by decide); omega)).mono ?_)
      rintro e t2 ⟨w2,rfl,hT2⟩
      refine ⟨_,rfl,fun X=>Ext x6 X,fun X hX=>hX,Ext.trans hG2.out.2 hT2.2,?_⟩
      simp only [jw,jz,kj,jk,jq,jv,jy]
      have hp2:=hideit ((hG2.out).ext hT2.2)
      obtain ⟨u2,s2,r2,hG3⟩:=run_gb 32 hp2.out w2 (4 + l 2) (catF (fourB (l 2)) 4 (f 2)) hT2.bv (by omega) (by have:=hls.out 0 (by decide); have:=hls.out 1 (by decide); have:=hls.out 2 (by decide); have:=hls.out 3 (by decide); omega)
      refine wpX_to _ u2 s2 rfl rfl (exec_append (.tmp 43) (.tmp 46) 32 32 rfl _ _ _ rfl rfl r2) (fun X=>Ext x6 X) (fun X hX=>hX) hG3.2 ?_
      simp only [jw,jz,kj,jk,jq,jv,jy]
      replace hG3:Hid (GB x6 u2 (4 * 6 + (4 + l 0) + (4 + l 1) + (4 + l 2)) (catF (F2) (4 * 6 + (4 + l 0) + (4 + l 1)) (catF (fourB (l 2)) 4 (f 2))) s2):=hG3
      obtain ⟨F3,hF3⟩:∃ F,F = catF (F2) (4 * 6 + (4 + l 0) + (4 + l 1)) (catF (fourB (l 2)) 4 (f 2)):=⟨_,rfl⟩
      rw [← hF3] at hG3
      replace hF3:=hideit hF3
      clear r2 hp2 hu2 hT2
      have hu3:=hideit ((hb.out 3 (by decide)).ext (Ext.trans hE.out hG3.out.2))
      refine wpX_call _ rfl rfl (by simp [go_sem]) ((text_any (.slice (o 3) (l 3) (k 3)) (l 3) (f 3) _ hu3.out (by have:=hls.out 3 (by decide); omega)).mono ?_)
      rintro e t3 ⟨w3,rfl,hT3⟩
      refine ⟨_,rfl,fun X=>Ext x6 X,fun X hX=>hX,Ext.trans hG3.out.2 hT3.2,?_⟩
      simp only [jw,jz,kj,jk,jq,jv,jy]
      have hp3:=hideit ((hG3.out).ext hT3.2)
      obtain ⟨u3,s3,r3,hG4⟩:=run_gb 32 hp3.out w3 (4 + l 3) (catF (fourB (l 3)) 4 (f 3)) hT3.bv (by omega) (by have:=hls.out 0 (by decide); have:=hls.out 1 (by decide); have:=hls.out 2 (by decide); have:=hls.out 3 (by decide); omega)
      refine wpX_to _ u3 s3 rfl rfl (exec_append (.tmp 47) (.tmp 50) 32 32 rfl _ _ _ rfl rfl r3) (fun X=>Ext x6 X) (fun X hX=>hX) hG4.2 ?_
      simp only [jw,jz,kj,jk,jq,jv,jy]
      replace hG4:Hid (GB x6 u3 (4 * 6 + (4 + l 0) + (4 + l 1) + (4 + l 2) + (4 + l 3)) (catF (F3) (4 * 6 + (4 + l 0) + (4 + l 1) + (4 + l 2)) (catF (fourB (l 3)) 4 (f 3))) s3):=hG4
      obtain ⟨F4,hF4⟩:∃ F,F = catF (F3) (4 * 6 + (4 + l 0) + (4 + l 1) + (4 + l 2)) (catF (fourB (l 3)) 4 (f 3)):=⟨_,rfl⟩
      rw [← hF4] at hG4
      replace hF4:=hideit hF4
      clear r3 hp3 hu3 hT3
      refine wpX_f _ (u3) rfl rfl (fun X hX=>by simp [go_sem]) ?_
      simp only [jw,jz,kj,jk,jq,jv,jy]
      refine wpX_nil ?_
      have hbv:=hideit hG4.out.bv
      go_upto_region 10 with (fail)
      refine wp_region_lit ?_
      refine xm [some (u3)] (by kernel_rfl) (by simp [xr,go_sem]) ?_
      simp only [xw,p0,p1,p2,p3]
      refine wpList_call rfl (by simp [go_sem]) ((rplain 64 (4 * 6 + (4 + l 0) + (4 + l 1) + (4 + l 2) + (4 + l 3)) (by decide) (by decide) u3 F4 s3 hbv.out (by have:=hls.out 0 (by decide); have:=hls.out 1 (by decide); have:=hls.out 2 (by decide); have:=hls.out 3 (by decide); omega)).mono ?_)
      rintro e x9 ⟨v9,rfl,hO9,hX9⟩
      refine ⟨_,rfl,?_⟩
      simp only [jk,jq,jv,jy]
      have hEn:=hideit (Ext.trans (Ext.trans hE.out hG4.out.2) hX9)
      have hO8:=hideit (hO9.down (Below.size (Ext.trans hE.out hG4.out.2)))
      refine xm [some (v9),some (.int .i64 0),some (v9),some (.int .i64 0)] (by kernel_rfl) (by simp [xr,go_sem]) ?_
      simp only [xw,p0,p1,p2,p3]
      go_wp2
      refine bodyPost_ret (res2 rfl _ _ _) rfl ?_
      refine ⟨v9,rfl,?_,hEn.out⟩
      rw [show sdF n T M L l f = bF 64 F4 (4 * 6 + (4 + l 0) + (4 + l 1) + (4 + l 2) + (4 + l 3)) from ?_]
      · exact hO8.out
      · unfold sdF
        rw [sd_len l]
        exact bF_congr 64 _ _ _ fun j hj=>by rw [hF4.out,hF3.out,hF2.out,hF1.out]; exact sd_cat n T M L l f j
end Go.Proofs.YtfbmeclpcgdmhabDoor
namespace Go.Proofs.YtfbmeclpcgdmhabDoor
open Go.RowKit Go.BigFrame
set_option linter.unusedVariables false
set_option maxRecDepth 20000 in
set_option maxHeartbeats 4000000 in
theorem rpages_no (ti me la:Int) (w:World) (hp:¬ okP ti me la):Calls Tryd.prog 17 #[.agg (row 3 (pav ti me la)).toArray] w fun e w'=>e = .returned (.int .i64 0) ∧ Ext w w':=by
  replace hp:=hideit hp
  obtain ⟨c,w1,hw,hc,H0,hE⟩:=boxes1 w 3 (pav ti me la) 31
  go_enter Tryd.func17,Tryd.ntmps17
  go_upto_region 1 with (fail)
  rw [← hw.out,← hc.out]
  clear hw hc
  refine wp_region_lit ?_
  refine wpList_run rfl (.agg (row 3 (pav ti me la)).toArray) (xload 31 (.tmp 1) rfl c 0 3 _ rfl H0.out.range Tryd.underlying31 rfl infoPa) ?_
  simp only [jk,jq,jv,jy]
  refine wpList_call rfl (by simp [go_sem]) ((racheck ti me la w1 80 ⟨fun h=>absurd h hp.out,fun _=>rfl⟩).mono ?_)
  rintro e y1 ⟨rfl,hX2⟩
  refine ⟨_,rfl,?_⟩
  simp only [jk,jq,jv,jy]
  replace H0:=hideit (H0.out.carry hX2)
  replace hE:=hideit (Ext.trans hE.out hX2)
  clear hX2
  refine xm [some (.bool true)] (by kernel_rfl) (by simp [xr,go_sem]) ?_
  simp only [xw,p0,p1,p2,p3]
  go_upto_region 2 with (fail)
  refine wp_region_lit ?_
  refine xm [some (.int .i64 0)] (by kernel_rfl) (by simp [xr,go_sem]) ?_
  simp only [xw,p0,p1,p2,p3]
  go_wp2
  go_ret
  exact ⟨rfl,hE.out⟩
set_option maxRecDepth 20000 in
set_option maxHeartbeats 4000000 in
theorem rpgs_ok (T M L:Nat) (w:World) (hp:okP (T:Int) (M:Int) (L:Int)):Calls Tryd.prog 17 #[.agg (row 3 (pav (T:Int) (M:Int) (L:Int))).toArray] w fun e w'=>e = .returned (.int .i64 ((4 * (M / (4 * L)) * L:Nat):Int)) ∧ Ext w w':=by
  have h3:1 ≤ L ∧ L ≤ 4 ∧ M ≤ 256:=⟨by have:=hp.2.1.1; omega,by have:=hp.2.1.2; omega,by have:=hp.2.2.2; omega⟩
  have hl:=Nat.div_le_self M (4 * L)
  have z0:IntKind.i64.wrap (4 * (L:Int)) = 4 * (L:Int):=by rw [IntKind.wrap_i64]; omega
  have z3:(M:Int).tdiv (4 * (L:Int)) = ((M / (4 * L):Nat):Int):=by rw [Int.tdiv_eq_ediv_of_nonneg (by omega)]; rfl
  have zL:¬ L = 0:=by omega
  obtain ⟨q,hq⟩:∃ q,q = M / (4 * L):=⟨_,rfl⟩
  rw [← hq] at z3 hl
  have hm:L * q ≤ 4 * 256:=Nat.mul_le_mul h3.2.1 (by omega)
  have z4:IntKind.i64.wrap (q:Int) = (q:Int):=by rw [IntKind.wrap_i64]; omega
  have z1:IntKind.i64.wrap ((q:Int) * 4) = (q:Int) * 4:=by rw [IntKind.wrap_i64]; omega
  have z2:IntKind.i64.wrap ((q:Int) * 4 * (L:Int)) = ((4 * q * L:Nat):Int):=by
    have e:(q:Int) * 4 * (L:Int) = ((4 * (L * q):Nat):Int):=by push_cast; rw [Int.mul_comm (q:Int) 4,Int.mul_assoc,Int.mul_comm (q:Int) (L:Int)]
    rw [e,show 4 * q * L = 4 * (L * q) by rw [Nat.mul_assoc,Nat.mul_comm q L],IntKind.wrap_i64]
    omega
  obtain ⟨tt,htt⟩:∃ t,t = 4 * q * L:=⟨_,rfl⟩
  rw [← hq,← htt]
  rw [← htt] at z2
  replace z0:=hideit z0
  replace z1:=hideit z1
  replace z2:=hideit z2
  replace z3:=hideit z3
  replace z4:=hideit z4
  replace zL:=hideit zL
  clear h3 hl hm htt hq
  replace hp:=hideit hp
  obtain ⟨c,w1,hw,hc,H0,hE⟩:=boxes1 w 3 (pav (T:Int) (M:Int) (L:Int)) 31
  go_enter Tryd.func17,Tryd.ntmps17
  go_upto_region 1 with (fail)
  rw [← hw.out,← hc.out]
  clear hw hc
  refine wp_region_lit ?_
  refine wpList_run rfl (.agg (row 3 (pav (T:Int) (M:Int) (L:Int))).toArray) (xload 31 (.tmp 1) rfl c 0 3 _ rfl H0.out.range Tryd.underlying31 rfl infoPa) ?_
  simp only [jk,jq,jv,jy]
  refine wpList_call rfl (by simp [go_sem]) ((racheck (T:Int) (M:Int) (L:Int) w1 0 ⟨fun _=>rfl,fun h=>absurd hp.out h⟩).mono ?_)
  rintro e y1 ⟨rfl,hX2⟩
  refine ⟨_,rfl,?_⟩
  simp only [jk,jq,jv,jy]
  replace H0:=hideit (H0.out.carry hX2)
  replace hE:=hideit (Ext.trans hE.out hX2)
  clear hX2
  refine xm [some (.bool false)] (by kernel_rfl) (by simp [xr,go_sem]) ?_
  simp only [xw,p0,p1,p2,p3]
  go_upto_region 3 with (fail)
  replace H0:=hideit H0.out.drew
  replace hE:=hideit (Ext.draw hE.out)
  refine wp_region_lad (fun X=>Ext y1.drew X) [(false,0),(false,1),(false,2),(false,3),(false,4),(false,5),(false,6),(false,7),(false,8),(false,9),(false,10)] (by kernel_rfl) (by kernel_rfl) (by decide +kernel) (by decide +kernel) (by decide +kernel) (by decide +kernel) (Ext.refl _) ?_
  refine wpX_f _ (.pointer (some ⟨c,1,none⟩)) rfl rfl (fun X _=>by simp [go_sem]) ?_
  simp only [List.getElem_toArray,List.getElem_cons_zero,Act.put,List.setIfInBounds_toArray,List.set_cons_zero,List.set_cons_succ]
  refine wpX_f _ (.int .i64 (M:Int)) rfl rfl (fun X hX=>by have m3:X.cell? ⟨c,1,none⟩ = some (.int .i64 (M:Int)):=(H0.out.carry hX).1 1 (by decide); simp [go_sem,m3]) ?_
  simp only [jw,jz,kj,jk,jq,jv,jy]
  refine wpX_f _ (.pointer (some ⟨c,2,none⟩)) rfl rfl (fun X _=>by simp [go_sem]) ?_
  simp only [jw,jz,kj,jk,jq,jv,jy]
  refine wpX_f _ (.int .i64 (L:Int)) rfl rfl (fun X hX=>by have m4:X.cell? ⟨c,2,none⟩ = some (.int .i64 (L:Int)):=(H0.out.carry hX).1 2 (by decide); simp [go_sem,m4]) ?_
  simp only [jw,jz,kj,jk,jq,jv,jy]
  refine wpX_f _ (.int .i64 (4 * (L:Int))) rfl rfl (fun X _=>by simp [go_sem,z0.out]) ?_
  simp only [jw,jz,kj,jk,jq,jv,jy]
  refine wpX_f _ (.int .i64 (q:Int)) rfl rfl (fun X _=>by simp [go_sem,zL.out,z3.out,z4.out]) ?_
  simp only [jw,jz,kj,jk,jq,jv,jy]
  refine wpX_f _ (.int .i64 ((q:Int) * 4)) rfl rfl (fun X _=>by simp [go_sem,z1.out]) ?_
  simp only [jw,jz,kj,jk,jq,jv,jy]
  refine wpX_f _ (.pointer (some ⟨c,2,none⟩)) rfl rfl (fun X _=>by simp [go_sem]) ?_
  simp only [jw,jz,kj,jk,jq,jv,jy]
  refine wpX_f _ (.int .i64 (L:Int)) rfl rfl (fun X hX=>by have m5:X.cell? ⟨c,2,none⟩ = some (.int .i64 (L:Int)):=(H0.out.carry hX).1 2 (by decide); simp [go_sem,m5]) ?_
  simp only [jw,jz,kj,jk,jq,jv,jy]
  refine wpX_f _ (.int .i64 (tt:Int)) rfl rfl (fun X _=>by simp [go_sem,z2.out]) ?_
  simp only [jw,jz,kj,jk,jq,jv,jy]
  refine wpX_f _ (.int .i64 (tt:Int)) rfl rfl (fun X _=>by simp [go_sem]) ?_
  simp only [jw,jz,kj,jk,jq,jv,jy]
  refine wpX_nil ?_
  go_wp2
  go_ret
  exact ⟨rfl,hE.out⟩
def rmV (T M L q b c ps sl ln k:Nat):Nat → Value:=fun j=>if j = 0 then .int .i64 (T:Int) else if j = 1 then .int .i64 (M:Int) else if j = 2 then .int .i64 (L:Int) else if j = 3 then .int .i64 (q:Int) else if j = 4 then .slice (some ⟨b,0,none⟩) (q * L) c else if j = 5 then .int .i64 (ps:Int) else if j = 6 then .int .i64 (sl:Int) else if j = 7 then .int .i64 (ln:Int) else .int .i64 (k:Int)
end Go.Proofs.YtfbmeclpcgdmhabDoor
