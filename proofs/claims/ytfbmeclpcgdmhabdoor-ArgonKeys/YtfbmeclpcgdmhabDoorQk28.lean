/-
  Lists of bytes; the parts of a seed. The seed.
-/
import Derived.Test.YtfbmeclpcgdmhabDoorQk27
import Derived.Test.YtfbmeclpcgdmhabDoorQk21
import Derived.Maps.AppendAt
import Derived.Test.YtfbmeclpcgdmhabDoorQk1
namespace Go.Proofs.YtfbmeclpcgdmhabDoor
open Go.RowKit Go.BigFrame
set_option linter.unusedVariables false
structure QL (B:Nat) (v:Value) (m:Nat) (us:Nat → Value) (ls:Nat → Nat) (bs:Nat → Nat → BitVec 8) (X:World):Prop where
  own:OwnB B 32 v m us X
  byt:∀ i,i < m → BV (us i) (ls i) (bs i) X ∧ ∀ a n c,us i = .slice (some a) n c → v.ownBlock ≠ some a.block
def cut2 {α:Type} (m:Nat) (f g:Nat → α):Nat → α:=fun i=>if i < m then f i else g (i - m)
section
variable {B:Nat} {v:Value} {m:Nat} {us:Nat → Value} {ls ls':Nat → Nat} {bs bs':Nat → Nat → BitVec 8} {X Y:World}
theorem QL.ext (h:QL B v m us ls bs X) (k:Ext X Y):QL B v m us ls bs Y:=⟨h.own.ext k,fun i hi=>⟨(h.byt i hi).1.ext k,(h.byt i hi).2⟩⟩
theorem QL.congr (h:QL B v m us ls bs X) (e:∀ i,i < m → ls i = ls' i ∧ bs i = bs' i):QL B v m us ls' bs' X:=⟨h.own,fun i hi=>by
  obtain ⟨e1,e2⟩:=e i hi
  rw [← e1,← e2]
  exact h.byt i hi⟩
theorem QL.form (h:QL B v m us ls bs X):∃ o cap,v = .slice o m cap:=by
  rcases h.own.2 with ⟨e,q⟩ | ⟨g,cc,cur,e,_⟩
  · exact ⟨none,0,by rw [e,q]⟩
  · exact ⟨_,_,e⟩
theorem QL.nil (w:World) (B:Nat) (us:Nat → Value) (ls:Nat → Nat) (bs:Nat → Nat → BitVec 8):QL B (.slice none 0 0) 0 us ls bs w:=⟨own_nil w B 32 us,fun i hi=>absurd hi (Nat.not_lt_zero _)⟩
theorem QL.parts (h:QL B v m us ls bs X):Parts v m us ls bs X:=by
  refine ⟨?_,fun i hi=>(h.byt i hi).1⟩
  by_cases hm:m = 0
  · subst hm
    rcases h.own.2 with ⟨e,q⟩ | ⟨g,cc,cur,e,_,hg,_⟩
    · exact .inl ⟨e,rfl⟩
    · exact .inr ⟨_,_,e,Nat.zero_le _,fun j hj=>absurd hj (Nat.not_lt_zero _),(Array.getElem?_eq_some_iff.1 hg).1⟩
  · obtain ⟨b,cap,e,_,hc,_,hR⟩:=h.own.lies (by omega)
    exact .inr ⟨_,_,e,hc,hR.lie m (Nat.le_refl _)⟩
theorem BV.slc {u:Value} {l:Nat} {f:Nat → BitVec 8} {X:World} (h:BV u l f X):∃ o c,u = .slice o l c:=by
  rcases h with ⟨rfl,rfl⟩ | ⟨a,c,rfl,_⟩
  · exact ⟨_,_,rfl⟩
  · exact ⟨_,_,rfl⟩
theorem QL.app (h:QL B v m us ls bs X) (hB:B ≤ X.heap.size) (k:Nat) (ad:Addr) (c:Nat) (us2:Nat → Value) (ls2:Nat → Nat) (bs2:Nat → Nat → BitVec 8) (hl:∀ j,j < k → X.cell? (ad.add j) = some (us2 j))
    (hb:∀ i,i < k → BV (us2 i) (ls2 i) (bs2 i) X ∧ ∀ a n c,us2 i = .slice (some a) n c → v.ownBlock ≠ some a.block) (hm:m + k ≤ 1000000) (ty:TypeId):
    ∃ v' Y,(Builtin.append_ #[68,68] ty #[v,.slice (some ad) k c]).run Tryd.prog X = .ok v' Y ∧ QL B v' (m + k) (cut2 m us us2) (cut2 m ls ls2) (cut2 m bs bs2) Y ∧ Below B X Y:=by
  obtain ⟨i,zz,e1,e2,e3,e4,e5⟩:=elem47.info
  obtain ⟨v',Y,a1,a2,a3,_,a5⟩:=run_append_own_at (P:=Tryd.prog) X B 68 ty 32 i zz 1 24 elem47.slice e1 e2 e3 e4 e5 (by decide) v m (row m us) h.own ad k c (row k us2) (by rw [row_length,Nat.mul_one]) (fun j x hj=>by
    obtain ⟨hj',rfl⟩:=row_some hj
    exact hl j hj') (fun x hx=>by
    obtain ⟨j,hj,rfl⟩:=List.mem_map.1 hx
    exact (hb j (by simpa using hj)).1.one) (by unfold maxLen; omega) (by omega) hB
  have hkeep:∀ {u:Value} {l:Nat} {f:Nat → BitVec 8},BV u l f X → (∀ a n c,u = .slice (some a) n c → v.ownBlock ≠ some a.block) → BV u l f Y ∧ ∀ a n c,u = .slice (some a) n c → v'.ownBlock ≠ some a.block:=fun {u l f} hl hn=>by
    rcases hl with ⟨rfl,rfl⟩ | ⟨a,cp,rfl,hc,hL⟩
    · exact ⟨.inl ⟨rfl,rfl⟩,fun a n c e=>by cases e⟩
    · have h1:=hn a _ _ rfl
      refine ⟨.inr ⟨a,cp,rfl,hc,fun j hj=>(World.cell?_of_block (a:=a.add j) (by rw [add_block]; exact a3.block a.block hL.2 (fun e=>h1 e.symm))).trans (hL.1 j hj),Nat.lt_of_lt_of_le hL.2 a3.size⟩,fun a' n c e=>?_⟩
      injection e with e
      injection e with e
      subst e
      intro e
      rcases a5 with q | q
      · exact h1 (q ▸ e)
      · rw [q] at e
        have:=hL.2
        have e:X.heap.size = a.block:=Option.some.inj e
        omega
  refine ⟨v',Y,a1,⟨?_,fun j hj=>?_⟩,below_grown hB a3 fun q hq=>(h.own.lt q hq).1⟩
  · unfold OwnB
    rw [← row_append m k us us2 _ (fun j hj=>by unfold cut2; rw [if_pos hj]) (fun j hj=>by unfold cut2; rw [if_neg (by omega),Nat.add_sub_cancel_left])]
    exact a2
  · unfold cut2
    by_cases e:j < m
    · rw [if_pos e,if_pos e,if_pos e]
      exact hkeep (h.byt j e).1 (h.byt j e).2
    · rw [if_neg e,if_neg e,if_neg e]
      exact hkeep (hb (j - m) (by omega)).1 (hb (j - m) (by omega)).2
end
theorem below_ext {w0 X Y:World} {c:Nat} (h:Ext w0 X) (hc:w0.heap.size ≤ c) (k:Below c X Y):Ext w0 Y:=Below.trans h (Below.mono k hc)
theorem exec_app {P:Program} {o:Oper} {a:Act} {w w':World} {t:TypeId} {v u v':Value} (sl x:Operand) (ho:o.op = .call { callee:=.builtin .append,args := #[sl,x],argTypes := #[t,t] }) (hs:a.eval sl = v) (hx:a.eval x = u)
    (hr:(Builtin.append_ #[t,t] o.type #[v,u]).run P w = .ok v' w'):(execOp a.eval o).run P w = .ok (.value v') w':=by
  simp [execOp,ho,resolve,invoke,builtin,hs,hx,hr,Result.andThen]
theorem xindex {P:Program} {o:Oper} {a:Act} {w:World} (t:TypeId) (x i:Operand) (ho:o.op = .index t x i) (v u:Value) (k:Nat) (hx:a.eval x = v) (hi:a.eval i = .int .i64 (k:Int)) (hr:(Instr.index t v (.int .i64 (k:Int))).run P w = .ok u w):(execOp a.eval o).run P w = .ok (.value u) w:=by
  unfold execOp
  simp only [ho,hx,hi,Sem.run_bind,hr,Result.andThen_ok,Sem.run_pure]
def sdV (n T M L:Nat) (i:Nat):Nat:=if i = 0 then L else if i = 1 then n else if i = 2 then M else if i = 3 then T else if i = 4 then 19 else 2
def sdL (l:Nat → Nat) (i:Nat):Nat:=if i < 6 then 4 else if (i - 6) % 2 = 0 then 4 else l ((i - 6) / 2)
def sdB (n T M L:Nat) (l:Nat → Nat) (f:Nat → Nat → BitVec 8) (i:Nat):Nat → BitVec 8:=if i < 6 then fourB (sdV n T M L i) else if (i - 6) % 2 = 0 then fourB (l ((i - 6) / 2)) else f ((i - 6) / 2)
def sdF (n T M L:Nat) (l:Nat → Nat) (f:Nat → Nat → BitVec 8):Nat → BitVec 8:=bF 64 (allF (sdL l) (sdB n T M L l f) 14) (sumL (sdL l) 14)
def okK (n ti me la:Int) (l:Nat → Nat):Prop:=(4 ≤ n ∧ n ≤ 128) ∧ okP ti me la ∧ okC (l 0) (l 1) (l 2) (l 3)
end Go.Proofs.YtfbmeclpcgdmhabDoor
namespace Go.Proofs.YtfbmeclpcgdmhabDoor
open Go.RowKit Go.BigFrame
set_option linter.unusedVariables false
theorem idx6 (g:Nat → Int) (n:Nat) (hn:n < 6) (X:World):(Instr.index 69 (.agg (row 6 fun i=>.int .i64 (g i)).toArray) (.int .i64 (n:Int))).run Tryd.prog X = .ok (.int .i64 (g n)) X:=by
  have hs:∀ X,(sizeOf 3).run Tryd.prog X = .ok 1 X:=fun X=>by kernel_rfl
  have ha:∀ X,(isAgg 3).run Tryd.prog X = .ok false X:=fun X=>by kernel_rfl
  have hg:=row_get 6 (fun i=>Value.int .i64 (g i)) n hn
  simp [Instr.index,run_underlying Tryd.underlying69,asIntOf,hn,part,ha,hs,hg,go_sem]
theorem idx4 (g:Nat → Value) (n:Nat) (hn:n < 4) (X:World):(Instr.index 70 (.agg (row 4 g).toArray) (.int .i64 (n:Int))).run Tryd.prog X = .ok (g n) X:=by
  have hs:∀ X,(sizeOf 32).run Tryd.prog X = .ok 1 X:=fun X=>by kernel_rfl
  have ha:∀ X,(isAgg 32).run Tryd.prog X = .ok false X:=fun X=>by kernel_rfl
  have hg:=row_get 4 g n hn
  simp [Instr.index,run_underlying Tryd.underlying70,asIntOf,hn,part,ha,hs,hg,go_sem]
set_option maxRecDepth 20000 in
set_option maxHeartbeats 4000000 in
theorem seed_lo (n ti me la:Int) (o:Nat → Option Addr) (l k:Nat → Nat) (w:World) (h:n < 4):Calls Tryd.prog 18 #[.int .i64 n,.agg (row 3 (pav ti me la)).toArray,.agg (row 4 (scv (.slice (o 0) (l 0) (k 0)) (.slice (o 1) (l 1) (k 1)) (.slice (o 2) (l 2) (k 2)) (.slice (o 3) (l 3) (k 3)))).toArray] w fun e w'=>e = .returned (.tuple #[.slice none 0 0,.int .i64 80]) ∧ Ext w w':=by
  have a1:n < 4:=by omega
  obtain ⟨c,d,w1,hw,hd,hc,H0,H1,hE⟩:=boxes2 w 3 (pav ti me la) 31 4 (scv (.slice (o 0) (l 0) (k 0)) (.slice (o 1) (l 1) (k 1)) (.slice (o 2) (l 2) (k 2)) (.slice (o 3) (l 3) (k 3))) 34
  have hne:Hid (w.heap.size ≤ c ∧ w.heap.size ≤ d ∧ c ≠ d):=by have e1:=hd.out; have e2:=hc.out; exact ⟨by omega,by omega,by omega⟩
  have hdd:Hid (d < w1.heap.size):=H1.out.2.2
  go_enter Tryd.func18,Tryd.ntmps18
  go_upto_region 1 with (fail)
  rw [← hd.out,← hw.out,← hc.out]
  clear hw hc hd hne hdd
  refine wp_region_lit ?_
  refine xm [some (.int .i64 (n)),some (.bool true),some (.bool true),none,none,some (.bool true),some (.bool true),none,none,none,some (.bool true),some (.bool true),none,none,none,some (.bool true)] (by kernel_rfl) (by simp [xr,go_sem,a1]) ?_
  simp only [xw,p0,p1,p2,p3]
  go_wp2
  refine bodyPost_ret (res2 rfl _ _ _) rfl ?_
  exact ⟨rfl,hE.out⟩
set_option maxRecDepth 20000 in
set_option maxHeartbeats 4000000 in
theorem seed_hi (n ti me la:Int) (o:Nat → Option Addr) (l k:Nat → Nat) (w:World) (h:128 < n):Calls Tryd.prog 18 #[.int .i64 n,.agg (row 3 (pav ti me la)).toArray,.agg (row 4 (scv (.slice (o 0) (l 0) (k 0)) (.slice (o 1) (l 1) (k 1)) (.slice (o 2) (l 2) (k 2)) (.slice (o 3) (l 3) (k 3)))).toArray] w fun e w'=>e = .returned (.tuple #[.slice none 0 0,.int .i64 80]) ∧ Ext w w':=by
  have a1:¬ n < 4:=by omega
  have a2:128 < n:=by omega
  obtain ⟨c,d,w1,hw,hd,hc,H0,H1,hE⟩:=boxes2 w 3 (pav ti me la) 31 4 (scv (.slice (o 0) (l 0) (k 0)) (.slice (o 1) (l 1) (k 1)) (.slice (o 2) (l 2) (k 2)) (.slice (o 3) (l 3) (k 3))) 34
  have hne:Hid (w.heap.size ≤ c ∧ w.heap.size ≤ d ∧ c ≠ d):=by have e1:=hd.out; have e2:=hc.out; exact ⟨by omega,by omega,by omega⟩
  have hdd:Hid (d < w1.heap.size):=H1.out.2.2
  go_enter Tryd.func18,Tryd.ntmps18
  go_upto_region 1 with (fail)
  rw [← hd.out,← hw.out,← hc.out]
  clear hw hc hd hne hdd
  refine wp_region_lit ?_
  refine xm [some (.int .i64 (n)),some (.bool false),some (.bool false),some (.int .i64 (n)),some (.bool true),some (.bool true),some (.bool true),none,none,none,some (.bool true),some (.bool true),none,none,none,some (.bool true)] (by kernel_rfl) (by simp [xr,go_sem,a1,a2]) ?_
  simp only [xw,p0,p1,p2,p3]
  go_wp2
  refine bodyPost_ret (res2 rfl _ _ _) rfl ?_
  exact ⟨rfl,hE.out⟩
set_option maxRecDepth 20000 in
set_option maxHeartbeats 4000000 in
theorem seed_par (n ti me la:Int) (o:Nat → Option Addr) (l k:Nat → Nat) (w:World) (h:4 ≤ n ∧ n ≤ 128) (hp:¬ okP ti me la):Calls Tryd.prog 18 #[.int .i64 n,.agg (row 3 (pav ti me la)).toArray,.agg (row 4 (scv (.slice (o 0) (l 0) (k 0)) (.slice (o 1) (l 1) (k 1)) (.slice (o 2) (l 2) (k 2)) (.slice (o 3) (l 3) (k 3)))).toArray] w fun e w'=>e = .returned (.tuple #[.slice none 0 0,.int .i64 80]) ∧ Ext w w':=by
  have a1:¬ n < 4:=by omega
  have a2:¬ 128 < n:=by omega
  obtain ⟨c,d,w1,hw,hd,hc,H0,H1,hE⟩:=boxes2 w 3 (pav ti me la) 31 4 (scv (.slice (o 0) (l 0) (k 0)) (.slice (o 1) (l 1) (k 1)) (.slice (o 2) (l 2) (k 2)) (.slice (o 3) (l 3) (k 3))) 34
  have hne:Hid (w.heap.size ≤ c ∧ w.heap.size ≤ d ∧ c ≠ d):=by have e1:=hd.out; have e2:=hc.out; exact ⟨by omega,by omega,by omega⟩
  have hdd:Hid (d < w1.heap.size):=H1.out.2.2
  go_enter Tryd.func18,Tryd.ntmps18
  go_upto_region 1 with (fail)
  rw [← hd.out,← hw.out,← hc.out]
  clear hw hc hd hne hdd
  refine wp_region_lit ?_
  refine xm [some (.int .i64 (n)),some (.bool false),some (.bool false),some (.int .i64 (n)),some (.bool false),some (.bool false),some (.bool false)] (by kernel_rfl) (by simp [xr,go_sem,a1,a2]) ?_
  simp only [xw,p0,p1,p2,p3]
  refine wpList_runW rfl (.agg (row 3 (pav ti me la)).toArray) (xload 31 (.tmp 4) rfl c 0 3 _ rfl H0.out.range Tryd.underlying31 rfl infoPa) ?_
  simp only [jk,jq,jv,jy]
  refine wpList_callW rfl (by simp [go_sem]) ((acheck ti me la w1 80 ⟨fun h=>absurd h hp,fun _=>rfl⟩).mono ?_)
  rintro e y1 ⟨rfl,hX2⟩
  refine ⟨_,rfl,?_⟩
  simp only [jk,jq,jv,jy]
  replace H0:=hideit (H0.out.carry hX2)
  replace H1:=hideit (H1.out.carry hX2)
  replace hE:=hideit (Ext.trans hE.out hX2)
  clear hX2
  refine xm [some (.bool true),some (.bool true),some (.bool true),none,none,none,some (.bool true)] (by kernel_rfl) (by simp [xr,go_sem]) ?_
  simp only [xw,p0,p1,p2,p3]
  go_wp2
  refine bodyPost_ret (res2 rfl _ _ _) rfl ?_
  exact ⟨rfl,hE.out⟩
set_option maxRecDepth 20000 in
set_option maxHeartbeats 4000000 in
theorem seed_sec (n ti me la:Int) (o:Nat → Option Addr) (l k:Nat → Nat) (w:World) (h:4 ≤ n ∧ n ≤ 128) (hp:okP ti me la) (hs:¬ okC (l 0) (l 1) (l 2) (l 3)):Calls Tryd.prog 18 #[.int .i64 n,.agg (row 3 (pav ti me la)).toArray,.agg (row 4 (scv (.slice (o 0) (l 0) (k 0)) (.slice (o 1) (l 1) (k 1)) (.slice (o 2) (l 2) (k 2)) (.slice (o 3) (l 3) (k 3)))).toArray] w fun e w'=>e = .returned (.tuple #[.slice none 0 0,.int .i64 80]) ∧ Ext w w':=by
  have a1:¬ n < 4:=by omega
  have a2:¬ 128 < n:=by omega
  obtain ⟨c,d,w1,hw,hd,hc,H0,H1,hE⟩:=boxes2 w 3 (pav ti me la) 31 4 (scv (.slice (o 0) (l 0) (k 0)) (.slice (o 1) (l 1) (k 1)) (.slice (o 2) (l 2) (k 2)) (.slice (o 3) (l 3) (k 3))) 34
  have hne:Hid (w.heap.size ≤ c ∧ w.heap.size ≤ d ∧ c ≠ d):=by have e1:=hd.out; have e2:=hc.out; exact ⟨by omega,by omega,by omega⟩
  have hdd:Hid (d < w1.heap.size):=H1.out.2.2
  go_enter Tryd.func18,Tryd.ntmps18
  go_upto_region 1 with (fail)
  rw [← hd.out,← hw.out,← hc.out]
  clear hw hc hd hne hdd
  refine wp_region_lit ?_
  refine xm [some (.int .i64 (n)),some (.bool false),some (.bool false),some (.int .i64 (n)),some (.bool false),some (.bool false),some (.bool false)] (by kernel_rfl) (by simp [xr,go_sem,a1,a2]) ?_
  simp only [xw,p0,p1,p2,p3]
  refine wpList_runW rfl (.agg (row 3 (pav ti me la)).toArray) (xload 31 (.tmp 4) rfl c 0 3 _ rfl H0.out.range Tryd.underlying31 rfl infoPa) ?_
  simp only [jk,jq,jv,jy]
  refine wpList_callW rfl (by simp [go_sem]) ((acheck ti me la w1 0 ⟨fun _=>rfl,fun h=>absurd hp h⟩).mono ?_)
  rintro e y1 ⟨rfl,hX2⟩
  refine ⟨_,rfl,?_⟩
  simp only [jk,jq,jv,jy]
  replace H0:=hideit (H0.out.carry hX2)
  replace H1:=hideit (H1.out.carry hX2)
  replace hE:=hideit (Ext.trans hE.out hX2)
  clear hX2
  refine xm [some (.bool false),some (.bool false),some (.bool false)] (by kernel_rfl) (by simp [xr,go_sem]) ?_
  simp only [xw,p0,p1,p2,p3]
  refine wpList_runW rfl (.agg (row 4 (scv (.slice (o 0) (l 0) (k 0)) (.slice (o 1) (l 1) (k 1)) (.slice (o 2) (l 2) (k 2)) (.slice (o 3) (l 3) (k 3)))).toArray) (xload 34 (.tmp 5) rfl d 0 4 _ rfl H1.out.range Tryd.underlying34 rfl infoSc) ?_
  simp only [jk,jq,jv,jy]
  refine wpList_callW rfl (by simp [go_sem]) ((secret_any (o 0) (o 1) (o 2) (o 3) (l 0) (l 1) (l 2) (l 3) (k 0) (k 1) (k 2) (k 3) y1 80 ⟨fun h=>absurd h hs,fun _=>rfl⟩).mono ?_)
  rintro e y3 ⟨rfl,hX4⟩
  refine ⟨_,rfl,?_⟩
  simp only [jk,jq,jv,jy]
  replace H0:=hideit (H0.out.carry hX4)
  replace H1:=hideit (H1.out.carry hX4)
  replace hE:=hideit (Ext.trans hE.out hX4)
  clear hX4
  refine xm [some (.bool true),some (.bool true)] (by kernel_rfl) (by simp [xr,go_sem]) ?_
  simp only [xw,p0,p1,p2,p3]
  go_wp2
  refine bodyPost_ret (res2 rfl _ _ _) rfl ?_
  exact ⟨rfl,hE.out⟩
theorem seed_no (n ti me la:Int) (o:Nat → Option Addr) (l k:Nat → Nat) (w:World) (h:¬ okK n ti me la l):Calls Tryd.prog 18 #[.int .i64 n,.agg (row 3 (pav ti me la)).toArray,.agg (row 4 (scv (.slice (o 0) (l 0) (k 0)) (.slice (o 1) (l 1) (k 1)) (.slice (o 2) (l 2) (k 2)) (.slice (o 3) (l 3) (k 3)))).toArray] w fun e w'=>e = .returned (.tuple #[.slice none 0 0,.int .i64 80]) ∧ Ext w w':=by
  by_cases h1:n < 4
  · exact seed_lo n ti me la o l k w h1
  · by_cases h2:128 < n
    · exact seed_hi n ti me la o l k w h2
    · by_cases hp:okP ti me la
      · exact seed_sec n ti me la o l k w ⟨by omega,by omega⟩ hp fun hs=>h ⟨⟨by omega,by omega⟩,hp,hs⟩
      · exact seed_par n ti me la o l k w ⟨by omega,by omega⟩ hp
theorem sd_two (l:Nat → Nat) (f:Nat → Nat → BitVec 8) (n T M L j i:Nat) (e:¬ i < 6 + 2 * j) (hi:i < 6 + 2 * j + 2):(fun i=>if i = 0 then 4 else l j) (i - (6 + 2 * j)) = sdL l i ∧ (fun i=>if i = 0 then fourB (l j) else f j) (i - (6 + 2 * j)) = sdB n T M L l f i:=by
  unfold sdL sdB
  rcases (by omega:i = 6 + 2 * j ∨ i = 6 + 2 * j + 1) with rfl | rfl
  · have h0:¬ 6 + 2 * j < 6:=by omega
    have h1:(6 + 2 * j - 6) % 2 = 0:=by omega
    have h2:(6 + 2 * j - 6) / 2 = j:=by omega
    have h3:6 + 2 * j - (6 + 2 * j) = 0:=by omega
    simp only [h0,h1,h2,h3,if_true,if_false,and_self]
  · have h0:¬ 6 + 2 * j + 1 < 6:=by omega
    have h1:¬ (6 + 2 * j + 1 - 6) % 2 = 0:=by omega
    have h2:(6 + 2 * j + 1 - 6) / 2 = j:=by omega
    have h3:¬ 6 + 2 * j + 1 - (6 + 2 * j) = 0:=by omega
    simp only [h0,h1,h2,h3,if_false,and_self]
theorem sdV_small {n T M L:Nat} (j:Nat) (h:n ≤ 128 ∧ T ≤ 8 ∧ M ≤ 256 ∧ L ≤ 4):sdV n T M L j ≤ 4611686018427387904:=by
  unfold sdV
  (repeat' split) <;> omega
theorem row_new1 (w:World) (v:Value) (t:TypeId):RowAt w.heap.size 1 (fun _=>v) (w.alloc (.cells #[v] t)):=RowAt.new w 1 (fun _=>v) t
theorem add00 (g j:Nat):(⟨g,0,none⟩:Addr).add j = ⟨g,j,none⟩:=by unfold Addr.add; split <;> simp_all
set_option maxRecDepth 20000 in
set_option maxHeartbeats 4000000 in
theorem seed_ok (n T M L:Nat) (o:Nat → Option Addr) (l k:Nat → Nat) (f:Nat → Nat → BitVec 8) (w:World) (hk:okK (n:Int) (T:Int) (M:Int) (L:Int) l) (hb:∀ i,i < 4 → BV (.slice (o i) (l i) (k i)) (l i) (f i) w) (hC:TabC w):Calls Tryd.prog 18 #[.int .i64 (n:Int),.agg (row 3 (pav (T:Int) (M:Int) (L:Int))).toArray,.agg (row 4 (scv (.slice (o 0) (l 0) (k 0)) (.slice (o 1) (l 1) (k 1)) (.slice (o 2) (l 2) (k 2)) (.slice (o 3) (l 3) (k 3)))).toArray] w fun e w'=>∃ v,e = .returned (.tuple #[v,.int .i64 0]) ∧ OwnB w.heap.size 5 v 64 (yv (sdF n T M L l f)) w' ∧ Ext w w':=by
  obtain ⟨⟨h1,h2⟩,hp,hs⟩:=id hk
  have hsm:Hid (n ≤ 128 ∧ T ≤ 8 ∧ M ≤ 256 ∧ L ≤ 4):=⟨by omega,by have:=hp.1.2; omega,by have:=hp.2.2.2; omega,by have:=hp.2.1.2; omega⟩
  replace hC:=hideit hC
  have hb0:=hideit hb
  clear hb
  have a1:¬ (n:Int) < 4:=by omega
  have a2:¬ 128 < (n:Int):=by omega
  obtain ⟨c,d,w1,hw,hd,hc,H0,H1,hE⟩:=boxes2 w 3 (pav (T:Int) (M:Int) (L:Int)) 31 4 (scv (.slice (o 0) (l 0) (k 0)) (.slice (o 1) (l 1) (k 1)) (.slice (o 2) (l 2) (k 2)) (.slice (o 3) (l 3) (k 3))) 34
  have hne:Hid (w.heap.size ≤ c ∧ w.heap.size ≤ d ∧ c ≠ d):=by have e1:=hd.out; have e2:=hc.out; exact ⟨by omega,by omega,by omega⟩
  have hdd:Hid (d < w1.heap.size):=H1.out.2.2
  go_enter Tryd.func18,Tryd.ntmps18
  go_upto_region 1 with (fail)
  rw [← hd.out,← hw.out,← hc.out]
  clear hw hc hd hne hdd
  refine wp_region_lit ?_
  refine xm [some (.int .i64 (n:Int)),some (.bool false),some (.bool false),some (.int .i64 (n:Int)),some (.bool false),some (.bool false),some (.bool false)] (by kernel_rfl) (by simp [xr,go_sem,a1,a2]) ?_
  simp only [xw,p0,p1,p2,p3]
  refine wpList_runW rfl (.agg (row 3 (pav (T:Int) (M:Int) (L:Int))).toArray) (xload 31 (.tmp 4) rfl c 0 3 _ rfl H0.out.range Tryd.underlying31 rfl infoPa) ?_
  simp only [jk,jq,jv,jy]
  refine wpList_callW rfl (by simp [go_sem]) ((acheck (T:Int) (M:Int) (L:Int) w1 0 ⟨fun _=>rfl,fun h=>absurd hp h⟩).mono ?_)
  rintro e y1 ⟨rfl,hX2⟩
  refine ⟨_,rfl,?_⟩
  simp only [jk,jq,jv,jy]
  replace H0:=hideit (H0.out.carry hX2)
  replace H1:=hideit (H1.out.carry hX2)
  replace hE:=hideit (Ext.trans hE.out hX2)
  clear hX2
  refine xm [some (.bool false),some (.bool false),some (.bool false)] (by kernel_rfl) (by simp [xr,go_sem]) ?_
  simp only [xw,p0,p1,p2,p3]
  refine wpList_runW rfl (.agg (row 4 (scv (.slice (o 0) (l 0) (k 0)) (.slice (o 1) (l 1) (k 1)) (.slice (o 2) (l 2) (k 2)) (.slice (o 3) (l 3) (k 3)))).toArray) (xload 34 (.tmp 5) rfl d 0 4 _ rfl H1.out.range Tryd.underlying34 rfl infoSc) ?_
  simp only [jk,jq,jv,jy]
  refine wpList_callW rfl (by simp [go_sem]) ((secret_any (o 0) (o 1) (o 2) (o 3) (l 0) (l 1) (l 2) (l 3) (k 0) (k 1) (k 2) (k 3) y1 0 ⟨fun _=>rfl,fun h=>absurd hs h⟩).mono ?_)
  rintro e y3 ⟨rfl,hX4⟩
  refine ⟨_,rfl,?_⟩
  simp only [jk,jq,jv,jy]
  replace H0:=hideit (H0.out.carry hX4)
  replace H1:=hideit (H1.out.carry hX4)
  replace hE:=hideit (Ext.trans hE.out hX4)
  clear hX4
  refine xm [some (.bool false),some (.bool false)] (by kernel_rfl) (by simp [xr,go_sem]) ?_
  simp only [xw,p0,p1,p2,p3]
  clear a1 a2
  have hYw:=hideit (Below.size hE.out)
  have e6:(row 6 fun i=>Value.int .i64 ((sdV n T M L i:Nat):Int)).toArray = #[.int .i64 (L:Int),.int .i64 (n:Int),.int .i64 (M:Int),.int .i64 (T:Int),.int .i64 19,.int .i64 2]:=rfl
  go_upto_region 4 with (fail)
  refine wp_region_lit ?_
  have m5:y3.cell? ⟨c,2,none⟩ = some (.int .i64 (L:Int)):=H0.out.1 2 (by decide)
  have m6:y3.cell? ⟨c,1,none⟩ = some (.int .i64 (M:Int)):=H0.out.1 1 (by decide)
  have m7:y3.cell? ⟨c,0,none⟩ = some (.int .i64 (T:Int)):=H0.out.1 0 (by decide)
  refine xm [some (.pointer (some ⟨c,2,none⟩)),some (.int .i64 (L:Int)),some (.int .i64 (n:Int)),some (.pointer (some ⟨c,1,none⟩)),some (.int .i64 (M:Int)),some (.pointer (some ⟨c,0,none⟩)),some (.int .i64 (T:Int)),some (.agg (row 6 fun i=>Value.int .i64 ((sdV n T M L i:Nat):Int)).toArray),some (.int .i64 0)] (by kernel_rfl) (by simp [xr,go_sem,m5,m6,m7,e6]) ?_
  simp only [xw,p0,p1,p2,p3]
  clear m5
  clear m6
  clear m7
  clear e6 H0
  obtain ⟨A6,hA6⟩:∃ A,A = Value.agg (row 6 fun i=>Value.int .i64 ((sdV n T M L i:Nat):Int)).toArray:=⟨_,rfl⟩
  have ix:Hid (∀ j:Nat,j < 6 → ∀ X:World,(Instr.index 69 A6 (.int .i64 (j:Int))).run Tryd.prog X = .ok (.int .i64 ((sdV n T M L j:Nat):Int)) X):=hideit fun j hj X=>by rw [hA6]; exact idx6 _ j hj X
  rw [← hA6]
  clear hA6
  go_upto_region 5 with (fail)
  go_loopw [8,37] (fun v i X=>∃ j:Nat,∃ us,j ≤ 6 ∧ i = .int .i64 (j:Int) ∧ QL y3.heap.size v j us (sdL l) (sdB n T M L l f) X ∧ Ext y3 X) (fun _ i _=>100 - (intOf i).toNat)
  case atStart=>exact ⟨0,fun _=>undef,Nat.zero_le _,rfl,QL.nil _ _ _ _ _,Ext.refl _⟩
  case round=>
    obtain ⟨j,us,hj,rfl,hQ,hX⟩:=hrel
    obtain ⟨qo,qc,rfl⟩:=hQ.form
    replace hQ:=hideit hQ
    replace hX:=hideit hX
    by_cases hlt:j < 6
    · have k1:(j:Int) < 6:=by omega
      have ek:IntKind.i64.wrap ((j:Int) + 1) = ((j + 1:Nat):Int):=by rw [IntKind.wrap_i64]; omega
      have ixj:=ix.out j hlt
      obtain ⟨nv,hnv⟩:∃ v,v = sdV n T M L j:=⟨_,rfl⟩
      rw [← hnv] at ixj
      have nvs:Hid (nv ≤ 4611686018427387904):=by
        rw [hnv]
        exact sdV_small j hsm.out
      replace hnv:=hideit hnv
      go_upto_region 5 with (fail)
      refine wp_region_lit ?_
      refine xm [some (.bool true)] (by kernel_rfl) (by simp [xr,go_sem,k1]) ?_
      simp only [xw,p0,p1,p2,p3]
      go_upto_region 6 with (fail)
      refine wp_region_lit ?_
      refine wpList_run rfl (.int .i64 (nv:Int)) (xindex 69 (.tmp 36) (.tmp 37) rfl A6 _ j rfl rfl (ixj _)) ?_
      simp only [jk,jq,jv,jy]
      refine xm [some (.int .i64 (nv:Int))] (by kernel_rfl) (by simp [xr,go_sem]) ?_
      simp only [xw,p0,p1,p2,p3]
      have hQo:=hQ
      go_upto_region 7 with (fail)
      refine wp_region_lit ?_
      refine xm [some (.slice qo j qc),some (.int .i64 (nv:Int))] (by kernel_rfl) (by simp [xr,go_sem]) ?_
      simp only [xw,p0,p1,p2,p3]
      refine wpList_call rfl (by simp [go_sem]) ((num_any nv nvs.out wr).mono ?_)
      rintro e x2 ⟨g,rfl,hg,hbv,hX2⟩
      refine ⟨_,rfl,?_⟩
      simp only [jk,jq,jv,jy]
      replace hQ:=hideit (hQ.out.ext hX2)
      replace hX:=hideit (Ext.trans hX.out hX2)
      have hg:=hideit hg
      have hbv:=hideit hbv
      have hsz:=hideit (Below.size hX2)
      clear hX2
      have XN:Ext x2 (x2.alloc (.cells #[.slice (some ⟨g,0,none⟩) 4 4] 32)):=(Below.refl _ _).alloc (Nat.le_refl _) _
      have hr:=row_new1 x2 (.slice (some ⟨g,0,none⟩) 4 4) 32
      have hQ2:=hQ.out.ext XN
      obtain ⟨v4,x4,r4,hQ4,hB4⟩:=hQ2.app (Nat.le_trans (Below.size hX.out) (Below.size XN)) 1 ⟨x2.heap.size,0,none⟩ 1 (fun _=>.slice (some ⟨g,0,none⟩) 4 4) (fun _=>4) (fun _=>fourB nv) (fun j hj=>by rw [add00]; exact hr.1 j hj) (fun i hi=>⟨hbv.out.ext XN,fun a n c e=>by
        injection e with e
        injection e with e
        subst e
        intro e
        have:=(hQo.out.own.lt g e).2
        have:=hg.out
        omega⟩) (by omega) 68
      have hE4:=hideit (below_ext (Ext.trans hX.out XN) (Nat.le_refl _) hB4)
      have hQ5:Hid (QL y3.heap.size v4 (j + 1) (cut2 j us (fun _=>.slice (some ⟨g,0,none⟩) 4 4)) (sdL l) (sdB n T M L l f) x4):=hQ4.congr fun i hi=>by
        unfold cut2
        by_cases e:i < j
        · rw [if_pos e,if_pos e]; exact ⟨rfl,rfl⟩
        · obtain rfl:i = j:=by omega
          rw [if_neg e,if_neg e]
          unfold sdL sdB
          rw [if_pos hlt,if_pos hlt,hnv.out]
          exact ⟨rfl,rfl⟩
      clear hQ2 hQ4 hB4 XN hr
      refine wpList_to rfl (.slice (some ⟨x2.heap.size,0,none⟩) 1 1) (x2.alloc (.cells #[.slice (some ⟨g,0,none⟩) 4 4] 32)) (by simp [go_sem]) ?_
      simp only [jk,jq,jv,jy]
      refine wpList_to rfl v4 x4 (exec_app (.tmp 40) (.tmp 43) rfl rfl rfl r4) ?_
      simp only [jk,jq,jv,jy]
      clear r4 hQ hX hbv hQo
      refine xm [some (v4)] (by kernel_rfl) (by simp [xr,go_sem]) ?_
      simp only [xw,p0,p1,p2,p3]
      go_upto_region 8 with (fail)
      refine wp_region_lit ?_
      refine xm [some (.int .i64 ((j + 1:Nat):Int)),some (.int .i64 ((j + 1:Nat):Int))] (by kernel_rfl) (by simp [xr,go_sem,ek]) ?_
      simp only [xw,p0,p1,p2,p3]
      go_wp2
      exact ⟨⟨j + 1,_,by omega,rfl,hQ5.out,hE4.out⟩,by simp [intOf]; omega⟩
    · obtain rfl:j = 6:=by omega
      have k1:¬ ((6:Nat):Int) < 6:=by omega
      replace H1:=hideit (H1.out.carry hX.out)
      replace hE:=hideit (Ext.trans hE.out hX.out)
      have hYX:=hideit (Below.size hX.out)
      clear hX ix
      go_upto_region 5 with (fail)
      refine wp_region_lit ?_
      refine xm [some (.bool false)] (by kernel_rfl) (by simp [xr,go_sem]) ?_
      simp only [xw,p0,p1,p2,p3]
      have e4:(row 4 fun i=>Value.slice (o i) (l i) (k i)).toArray = #[.slice (o 0) (l 0) (k 0),.slice (o 1) (l 1) (k 1),.slice (o 2) (l 2) (k 2),.slice (o 3) (l 3) (k 3)]:=rfl
      go_upto_region 9 with (fail)
      refine wp_region_lit ?_
      have m8:wr.cell? ⟨d,0,none⟩ = some (.slice (o 0) (l 0) (k 0)):=H1.out.1 0 (by decide)
      have m9:wr.cell? ⟨d,1,none⟩ = some (.slice (o 1) (l 1) (k 1)):=H1.out.1 1 (by decide)
      have m10:wr.cell? ⟨d,2,none⟩ = some (.slice (o 2) (l 2) (k 2)):=H1.out.1 2 (by decide)
      have m11:wr.cell? ⟨d,3,none⟩ = some (.slice (o 3) (l 3) (k 3)):=H1.out.1 3 (by decide)
      refine xm [some (.pointer (some ⟨d,0,none⟩)),some (.slice (o 0) (l 0) (k 0)),some (.pointer (some ⟨d,1,none⟩)),some (.slice (o 1) (l 1) (k 1)),some (.pointer (some ⟨d,2,none⟩)),some (.slice (o 2) (l 2) (k 2)),some (.pointer (some ⟨d,3,none⟩)),some (.slice (o 3) (l 3) (k 3)),some (.agg (row 4 fun i=>Value.slice (o i) (l i) (k i)).toArray),some (.int .i64 0)] (by kernel_rfl) (by simp [xr,go_sem,m8,m9,m10,m11,e4]) ?_
      simp only [xw,p0,p1,p2,p3]
      clear m8
      clear m9
      clear m10
      clear m11
      clear e4 H1 k1
      obtain ⟨A4,hA4⟩:∃ A,A = Value.agg (row 4 fun i=>Value.slice (o i) (l i) (k i)).toArray:=⟨_,rfl⟩
      have ix:Hid (∀ j:Nat,j < 4 → ∀ X:World,(Instr.index 70 A4 (.int .i64 (j:Int))).run Tryd.prog X = .ok (.slice (o j) (l j) (k j)) X):=hideit fun j hj X=>by rw [hA4]; exact idx4 (fun i=>.slice (o i) (l i) (k i)) j hj X
      rw [← hA4]
      clear hA4
      go_upto_region 10 with (fail)
      go_loopw [8,55] (fun v i X=>∃ j:Nat,∃ us,j ≤ 4 ∧ i = .int .i64 (j:Int) ∧ QL y3.heap.size v (6 + 2 * j) us (sdL l) (sdB n T M L l f) X ∧ Ext w X ∧ y3.heap.size ≤ X.heap.size) (fun _ i _=>100 - (intOf i).toNat)
      case atStart=>exact ⟨0,us,Nat.zero_le _,rfl,hQ.out,hE.out,hYX.out⟩
      case round=>
        clear hQ hE hYX
        obtain ⟨j,us,hj,rfl,hQ,hX,hY⟩:=hrel
        obtain ⟨qo,qc,rfl⟩:=hQ.form
        replace hQ:=hideit hQ
        replace hX:=hideit hX
        replace hY:=hideit hY
        by_cases hlt:j < 4
        · have k1:(j:Int) < 4:=by omega
          have ek:IntKind.i64.wrap ((j:Int) + 1) = ((j + 1:Nat):Int):=by rw [IntKind.wrap_i64]; omega
          have ixj:=ix.out j hlt
          have nvs:Hid (l j ≤ 4611686018427387904):=by
            obtain ⟨q0,⟨_,q1⟩,q2,q3⟩:=hs
            rcases (by omega:j = 0 ∨ j = 1 ∨ j = 2 ∨ j = 3) with e | e | e | e <;> (rw [e]; show _ ≤ _; omega)
          go_upto_region 10 with (fail)
          refine wp_region_lit ?_
          refine xm [some (.bool true)] (by kernel_rfl) (by simp [xr,go_sem,k1]) ?_
          simp only [xw,p0,p1,p2,p3]
          go_upto_region 11 with (fail)
          refine wp_region_lit ?_
          refine wpList_run rfl (.slice (o j) (l j) (k j)) (xindex 70 (.tmp 54) (.tmp 55) rfl A4 _ j rfl rfl (ixj _)) ?_
          simp only [jk,jq,jv,jy]
          refine xm [some (.slice (o j) (l j) (k j))] (by kernel_rfl) (by simp [xr,go_sem]) ?_
          simp only [xw,p0,p1,p2,p3]
          have hQo:=hQ
          go_upto_region 12 with (fail)
          refine wp_region_lit ?_
          refine xm [some (.slice qo (6 + 2 * j) qc),some (.slice (o j) (l j) (k j)),some (.int .i64 ((l j):Int))] (by kernel_rfl) (by simp [xr,go_sem]) ?_
          simp only [xw,p0,p1,p2,p3]
          refine wpList_call rfl (by simp [go_sem]) ((num_any (l j) nvs.out wr).mono ?_)
          rintro e x2 ⟨g,rfl,hg,hbv,hX2⟩
          refine ⟨_,rfl,?_⟩
          simp only [jk,jq,jv,jy]
          replace hQ:=hideit (hQ.out.ext hX2)
          replace hX:=hideit (Ext.trans hX.out hX2)
          have hg:=hideit hg
          have hbv:=hideit hbv
          have hsz:=hideit (Below.size hX2)
          clear hX2
          refine xm [some (.slice (o j) (l j) (k j))] (by kernel_rfl) (by simp [xr,go_sem]) ?_
          simp only [xw,p0,p1,p2,p3]
          have XN:Ext x2 (x2.alloc (.cells #[.slice (some ⟨g,0,none⟩) 4 4,.slice (o j) (l j) (k j)] 32)):=(Below.refl _ _).alloc (Nat.le_refl _) _
          have hr:RowAt x2.heap.size 2 (twoV (.slice (some ⟨g,0,none⟩) 4 4) (.slice (o j) (l j) (k j))) (x2.alloc (.cells #[.slice (some ⟨g,0,none⟩) 4 4,.slice (o j) (l j) (k j)] 32)):=RowAt.new x2 2 (twoV (.slice (some ⟨g,0,none⟩) 4 4) (.slice (o j) (l j) (k j))) 32
          have hQ2:=hQ.out.ext XN
          have hTX:=(hb0.out j hlt).ext (Ext.trans hX.out XN)
          obtain ⟨v4,x4,r4,hQ4,hB4⟩:=hQ2.app (Nat.le_trans hY.out (Nat.le_trans hsz.out (Below.size XN))) 2 ⟨x2.heap.size,0,none⟩ 2 (twoV (.slice (some ⟨g,0,none⟩) 4 4) (.slice (o j) (l j) (k j))) (fun i=>if i = 0 then 4 else l j) (fun i=>if i = 0 then fourB (l j) else f j) (fun j hj=>by rw [add00]; exact hr.1 j hj) (fun i hi=>by
            rcases (by omega:i = 0 ∨ i = 1) with rfl | rfl
            · refine ⟨hbv.out.ext XN,fun a n c e=>?_⟩
              injection e with e
              injection e with e
              subst e
              intro e
              have:=(hQo.out.own.lt g e).2
              have:=hg.out
              omega
            · refine ⟨hTX,fun a n c e q=>?_⟩
              have h1:=(hQo.out.own.lt a.block q).1
              have h2:=hYw.out
              rcases hb0.out j hlt with ⟨e',_⟩ | ⟨a',c',e',_,hL⟩
              · rw [show twoV (.slice (some ⟨g,0,none⟩) 4 4) (.slice (o j) (l j) (k j)) 1 = .slice (o j) (l j) (k j) from rfl,e'] at e
                cases e
              · rw [show twoV (.slice (some ⟨g,0,none⟩) 4 4) (.slice (o j) (l j) (k j)) 1 = .slice (o j) (l j) (k j) from rfl,e'] at e
                injection e with e
                injection e with e
                subst e
                have:=hL.2
                omega) (by omega) 68
          have hE4:=hideit (below_ext (Ext.trans hX.out XN) hYw.out hB4)
          have hY4:=hideit (Nat.le_trans hY.out (Nat.le_trans hsz.out (Nat.le_trans (Below.size XN) (Below.size hB4))))
          have hQ5:Hid (QL y3.heap.size v4 (6 + 2 * (j + 1)) (cut2 (6 + 2 * j) us (twoV (.slice (some ⟨g,0,none⟩) 4 4) (.slice (o j) (l j) (k j)))) (sdL l) (sdB n T M L l f) x4):=by
            rw [show 6 + 2 * (j + 1) = 6 + 2 * j + 2 by omega]
            exact hQ4.congr fun i hi=>by
              unfold cut2
              by_cases e:i < 6 + 2 * j
              · rw [if_pos e,if_pos e]; exact ⟨rfl,rfl⟩
              · rw [if_neg e,if_neg e]
                exact sd_two l f n T M L j i e hi
          clear hQ2 hQ4 hB4 XN hr hTX
          refine wpList_to rfl (.slice (some ⟨x2.heap.size,0,none⟩) 2 2) (x2.alloc (.cells #[.slice (some ⟨g,0,none⟩) 4 4,.slice (o j) (l j) (k j)] 32)) (by simp [go_sem]) ?_
          simp only [jk,jq,jv,jy]
          refine wpList_to rfl v4 x4 (exec_app (.tmp 58) (.tmp 63) rfl rfl rfl r4) ?_
          simp only [jk,jq,jv,jy]
          clear r4 hQ hX hbv hQo
          refine xm [some (v4)] (by kernel_rfl) (by simp [xr,go_sem]) ?_
          simp only [xw,p0,p1,p2,p3]
          go_upto_region 13 with (fail)
          refine wp_region_lit ?_
          refine xm [some (.int .i64 ((j + 1:Nat):Int)),some (.int .i64 ((j + 1:Nat):Int))] (by kernel_rfl) (by simp [xr,go_sem,ek]) ?_
          simp only [xw,p0,p1,p2,p3]
          go_wp2
          exact ⟨⟨j + 1,_,by omega,rfl,hQ5.out,hE4.out,hY4.out⟩,by simp [intOf]; omega⟩
        · obtain rfl:j = 4:=by omega
          replace hC:=hideit (hC.out.ext hX.out)
          go_upto_region 10 with (fail)
          refine wp_region_lit ?_
          refine xm [some (.bool false)] (by kernel_rfl) (by simp [xr,go_sem]) ?_
          simp only [xw,p0,p1,p2,p3]
          have hXo:=hX
          go_upto_region 14 with (fail)
          refine wp_region_lit ?_
          refine xm [some (.slice qo (6 + 2 * 4) qc)] (by kernel_rfl) (by simp [xr,go_sem]) ?_
          simp only [xw,p0,p1,p2,p3]
          refine wpList_call rfl (by simp [go_sem]) ((plain_sum 64 14 (by decide) (by decide) (.slice qo (6 + 2 * 4) qc) us (sdL l) (sdB n T M L l f) wr hQ.out.parts hC.out (by decide)).mono ?_)
          rintro e x3 ⟨vs,rfl,hO,hX3⟩
          refine ⟨_,rfl,?_⟩
          simp only [jk,jq,jv,jy]
          replace hX:=hideit (Ext.trans hX.out hX3)
          replace hO:=hideit (hO.down (Below.size hXo.out))
          clear hX3
          refine xm [some (vs),some (.int .i64 0),some (vs),some (.int .i64 0)] (by kernel_rfl) (by simp [xr,go_sem]) ?_
          simp only [xw,p0,p1,p2,p3]
          go_wp2
          refine bodyPost_ret (res2 rfl _ _ _) rfl ?_
          exact ⟨vs,rfl,hO.out,hX.out⟩
end Go.Proofs.YtfbmeclpcgdmhabDoor
