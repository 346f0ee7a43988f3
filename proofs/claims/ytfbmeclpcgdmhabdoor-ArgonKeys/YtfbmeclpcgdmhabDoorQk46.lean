/-
  Both keys. Parameters and secrets that came in.
-/
import Derived.Test.YtfbmeclpcgdmhabDoorQk1
import Derived.Test.YtfbmeclpcgdmhabDoorQk44
import Derived.Test.YtfbmeclpcgdmhabDoorQk45
import Derived.ArgAppend
import Derived.Laws.OwnMore
import Derived.Test.YtfbmeclpcgdmhabDoorQk20
import Derived.Test.YtfbmeclpcgdmhabDoorQk35
import Derived.Deep.Slices
namespace Go.Proofs.YtfbmeclpcgdmhabDoor
open Go.RowKit Go.BigFrame
set_option linter.unusedVariables false
theorem app0 {X:World} (ty:TypeId) (v0 xv:Value) (l:Nat) (f:Nat → BitVec 8) (h0:OwnB 0 5 v0 0 (yv fun _=>0#8) X) (hg:∃ g,v0 = .slice (some ⟨g,0,none⟩) 0 0) (hb:BV xv l f X) (hl:l ≤ 140737488355328):∃ o c X',(Builtin.append_ #[32,32] ty #[v0,xv]).run Tryd.prog X = .ok (.slice o l c) X' ∧ OwnB 0 5 (.slice o l c) l (yv f) X' ∧ Ext X X':=by
  obtain ⟨i,z,e1,e2,e3,e4,e5⟩:=elem22.info
  obtain ⟨g,rfl⟩:=hg
  rcases hb with ⟨rfl,rfl⟩ | ⟨ad,c,rfl,h2,h3⟩
  · exact ⟨_,_,X,run_append_owned_none (P:=Tryd.prog) X 0 32 ty 5 i 1 elem22.slice e1 _ 0 _ h0,h0.congr fun j hj=>absurd hj (Nat.not_lt_zero _),Ext.refl _⟩
  · rcases Nat.eq_zero_or_pos l with rfl | hp
    · have h:=run_append_room_cells (P:=Tryd.prog) X 32 ty 5 i elem22.slice e1 g 0 0 0 ad 0 c [] (by simp) (fun j u hj=>by cases hj) (fun u hu=>by cases hu) (Nat.le_refl _) (fun j hj=>absurd hj (Nat.not_lt_zero _)) (fun j hj=>absurd hj (Nat.not_lt_zero _))
      exact ⟨_,_,X,h,h0.congr fun j hj=>absurd hj (Nat.not_lt_zero _),Ext.refl _⟩
    · obtain ⟨v',X',r1,r2,r3⟩:=run_append_arg_grows (P:=Tryd.prog) X 32 ty 5 i z 1 1 elem22.slice e1 e2 e3 e4 e5 (by decide) ⟨g,0,none⟩ 0 0 [] (by simp) (fun j u hj=>by cases hj) ad l c (row l (yv f)) (by rw [row_length,Nat.mul_one]) (fun j u hj=>by
        obtain ⟨hj',rfl⟩:=row_some hj
        exact h3.1 j hj') (by omega) (by unfold maxLen; omega) (by omega)
      rw [Nat.zero_add,List.nil_append] at r2
      have r4:OwnB X.heap.size 5 v' l (yv f) X':=r2
      obtain ⟨b,cap,rfl,_⟩:=r4.lies hp
      exact ⟨_,_,X',r1,r4.down (Nat.zero_le _),⟨r3.os,r3.tape,r3.output,r3.size,fun k hk=>r3.block k hk (by simp)⟩⟩
theorem z34 (w:World):Sem.run Tryd.prog (zeroValue 34) w = .ok (.agg (row 4 (scv (.slice none 0 0) (.slice none 0 0) (.slice none 0 0) (.slice none 0 0))).toArray) w:=by kernel_rfl
def mkP (B i:Nat) (v:Value) (X:World):Prop:=if i = 17 then ∃ b cs,v = .pointer (some ⟨b,0,none⟩) ∧ B ≤ b ∧ RowAt b 4 (scv (.slice none 0 0) (.slice none 0 0) (.slice none 0 0) (.slice none 0 0)) X ∧ X.heap[b]? = some (.cells cs 34) else OwnB 0 5 v 0 (yv fun _=>0#8) X ∧ ∃ g,v = .slice (some ⟨g,0,none⟩) 0 0
theorem mkP_cl (B i:Nat) (v:Value):Cl Ext (mkP B i v):=fun X Y h k=>by
  unfold mkP at h ⊢
  by_cases e:i = 17
  · rw [if_pos e] at h ⊢
    obtain ⟨b,cs,h1,h2,h3,h4⟩:=h
    exact ⟨b,cs,h1,h2,h3.carry k,(k.block b h3.2.2).trans h4⟩
  · rw [if_neg e] at h ⊢
    exact ⟨h.1.ext k,h.2⟩
theorem ownCl (v:Value) (l:Nat) (f:Nat → BitVec 8):Cl Ext fun X=>OwnB 0 5 v l (yv f) X:=fun _ _ h k=>h.ext k
theorem wpQ_app {ops:Array Oper} {Q:Exit → Act → World → Prop} {brk fin:List Nat} {R:Nat → Value → World → Prop} {C0 C:World → Prop} {a:Act} {i:Nat} {r:List (Nat × Nat)} (o:Oper) (ho:ops[i]? = some o) (hw:Region.wanted o (yielded ops a.tmps) = true) (s x:Operand) (hop:o.op = .call { callee:=.builtin .append,args := #[s,x],argTypes := #[32,32] })
    (v0 xv:Value) (l:Nat) (f:Nat → BitVec 8) (hs:a.eval s = v0) (hx:a.eval x = xv) (hCl:Cl Ext C) (h0:∀ X,C X → OwnB 0 5 v0 0 (yv fun _=>0#8) X ∧ ∃ g,v0 = .slice (some ⟨g,0,none⟩) 0 0) (hb:∀ X,C X → BV xv l f X) (hl:l ≤ 140737488355328)
    (h:∀ oo c,wpQ Tryd.prog ops Q brk fin Ext R C0 r (fun Y=>C Y ∧ OwnB 0 5 (.slice oo l c) l (yv f) Y) (a.put o.dst (.slice oo l c))):wpQ Tryd.prog ops Q brk fin Ext R C0 ((1,i) :: r) C a:=by
  refine wpQ_to o ho hw fun X hX=>?_
  obtain ⟨oo,c,X',r1,r2,r3⟩:=app0 (X:=X) o.type v0 xv l f (h0 X hX).1 (h0 X hX).2 (hb X hX) hl
  exact ⟨_,X',exec_append s x 32 32 hop v0 xv _ hs hx r1,_,⟨hCl X X' hX r3,r2⟩,.inr (.inr ⟨fun Y hY=>hY.1,r3,hCl.and (ownCl _ _ _)⟩),h oo c⟩
theorem own_setCells {b:Nat} {v:Value} {n:Nat} {g:Nat → Value} (hb:v.ownBlock ≠ some b):∀ (vs:List Value) (o:Nat) (X:World),OwnB 0 5 v n g X → OwnB 0 5 v n g (X.setCells b o vs)
  | [],_,_,h=>h
  | u :: r,o,X,h=>by
    rw [World.setCells]
    exact own_setCells hb r (o + 1) _ (h.other ⟨b,o,none⟩ hb u)
theorem own_ty {b:Nat} {v:Value} {n:Nat} {g:Nat → Value} {X:World} {cs:Array Value} (h:OwnB 0 5 v n g X) (hb:X.heap[b]? = some (.cells cs 34)):v.ownBlock ≠ some b:=by
  rcases h.2 with ⟨rfl,_⟩ | ⟨k,cap,cur,rfl,_,h2,_⟩
  · intro e
    cases e
  · intro e
    have e2:k = b:=Option.some.inj e
    subst e2
    rw [hb] at h2
    injection h2 with h2
    injection h2 with _ h3
    cases h3
def f4 {α:Type} (a b c d:α):Nat → α
  | 0=>a
  | 1=>b
  | 2=>c
  | _=>d
theorem key_both (n ti me la:Int) (l:Nat → Nat) (f:Nat → Nat → BitVec 8):∃ (m:Nat) (g:Nat → BitVec 8) (R:Int),(∀ (oo:Nat → Option Addr) (kk:Nat → Nat) (w:World),(∀ i,i < 4 → BV (.slice (oo i) (l i) (kk i)) (l i) (f i) w) → TabC w → TabM w → Calls Tryd.prog 11 #[.int .i64 n,.agg (row 3 (pav ti me la)).toArray,.agg (row 4 (scv (.slice (oo 0) (l 0) (kk 0)) (.slice (oo 1) (l 1) (kk 1)) (.slice (oo 2) (l 2) (kk 2)) (.slice (oo 3) (l 3) (kk 3)))).toArray] w fun e w'=>∃ v,e = .returned (.tuple #[v,.int .i64 R]) ∧ BV v m g w' ∧ Ext w w') ∧ (∀ (oo:Nat → Option Addr) (kk:Nat → Nat) (w:World),(∀ i,i < 4 → BV (.slice (oo i) (l i) (kk i)) (l i) (f i) w) → Calls Tryd.prog 12 #[.int .i64 n,.agg (row 3 (pav ti me la)).toArray,.agg (row 4 (scv (.slice (oo 0) (l 0) (kk 0)) (.slice (oo 1) (l 1) (kk 1)) (.slice (oo 2) (l 2) (kk 2)) (.slice (oo 3) (l 3) (kk 3)))).toArray] w fun e w'=>∃ v,e = .returned (.tuple #[v,.int .i64 R]) ∧ BV v m g w' ∧ Ext w w'):=by
  by_cases h:okK n ti me la l
  · obtain ⟨N,T,M,L,rfl,rfl,rfl,rfl⟩:=okK_nat2 h
    exact ⟨N,_,0,fun oo kk w hb hC hM=>(key_ok N T M L oo l kk f w h hb hC hM).mono fun e w' ⟨v,h1,h2,h3⟩=>⟨v,h1,h2.bv,h3⟩,fun oo kk w hb=>(rkey_ok N T M L oo l kk f w h hb).mono fun e w' ⟨v,h1,h2,h3⟩=>⟨v,h1,h2.bv,h3⟩⟩
  · exact ⟨0,fun _=>0#8,80,fun oo kk w hb hC hM=>(key_no n ti me la oo l kk w h).mono fun e w' ⟨h1,h2⟩=>⟨_,h1,.inl ⟨rfl,rfl⟩,h2⟩,fun oo kk w hb=>(rkey_no n ti me la oo l kk w h).mono fun e w' ⟨h1,h2⟩=>⟨_,h1,.inl ⟨rfl,rfl⟩,h2⟩⟩
theorem pg_both (ti me la:Int):∃ z:Int,(∀ w,Calls Tryd.prog 16 #[.agg (row 3 (pav ti me la)).toArray] w fun e w'=>e = .returned (.int .i64 z) ∧ Ext w w') ∧ (∀ w,Calls Tryd.prog 17 #[.agg (row 3 (pav ti me la)).toArray] w fun e w'=>e = .returned (.int .i64 z) ∧ Ext w w'):=by
  by_cases h:okP ti me la
  · obtain ⟨T,M,L,rfl,rfl,rfl⟩:=okP_nat h
    exact ⟨_,fun w=>pages_ok T M L w h,fun w=>rpgs_ok T M L w h⟩
  · exact ⟨0,fun w=>pages_no ti me la w h,fun w=>rpages_no ti me la w h⟩
theorem chk_both (ti me la:Int):∃ z:Int,(∀ w,Calls Tryd.prog 14 #[.agg (row 3 (pav ti me la)).toArray] w fun e w'=>e = .returned (.int .i64 z) ∧ Ext w w') ∧ (∀ w,Calls Tryd.prog 15 #[.agg (row 3 (pav ti me la)).toArray] w fun e w'=>e = .returned (.int .i64 z) ∧ Ext w w'):=by
  by_cases h:okP ti me la
  · exact ⟨0,fun w=>acheck ti me la w 0 ⟨fun _=>rfl,fun k=>absurd h k⟩,fun w=>racheck ti me la w 0 ⟨fun _=>rfl,fun k=>absurd h k⟩⟩
  · exact ⟨80,fun w=>acheck ti me la w 80 ⟨fun k=>absurd k h,fun _=>rfl⟩,fun w=>racheck ti me la w 80 ⟨fun k=>absurd k h,fun _=>rfl⟩⟩
set_option maxRecDepth 20000 in
set_option maxHeartbeats 4000000 in
theorem keys_any (n ti me la:Int) (o:Nat → Option Addr) (l k:Nat → Nat) (w:World) (f:Nat → Nat → BitVec 8) (hb:∀ i,i < 4 → BV (.slice (o i) (l i) (k i)) (l i) (f i) w) (hlb:∀ i,i < 4 → l i ≤ 140737488355328) (hC:TabC w) (hTM:TabM w):Calls Tryd.prog 4 #[.int .i64 n,.agg (row 3 (pav ti me la)).toArray,.agg (row 4 (scv (.slice (o 0) (l 0) (k 0)) (.slice (o 1) (l 1) (k 1)) (.slice (o 2) (l 2) (k 2)) (.slice (o 3) (l 3) (k 3)))).toArray] w fun e w'=>e = .returned (.bool true) ∧ Ext w w':=by
  obtain ⟨m,KB,R,hk1,hk2⟩:=key_both n ti me la l f
  obtain ⟨cz,hc1,hc2⟩:=chk_both ti me la
  obtain ⟨pz,hp1,hp2⟩:=pg_both ti me la
  obtain ⟨KS,hKS⟩:∃ K,K = bstr m fun j=>((KB j).toNat:Int):=⟨_,rfl⟩
  obtain ⟨S,hS⟩:∃ K:Nat → ByteArray,K = fun i=>bstr (l i) fun j=>((f i j).toNat:Int):=⟨_,rfl⟩
  replace hk1:=hideit hk1
  replace hk2:=hideit hk2
  replace hc1:=hideit hc1
  replace hc2:=hideit hc2
  replace hp1:=hideit hp1
  replace hp2:=hideit hp2
  replace hKS:=hideit hKS
  replace hS:=hideit hS
  replace hC:=hideit hC
  replace hTM:=hideit hTM
  obtain ⟨c,d,w1,hw,hd,hc,H0,H1,hE⟩:=boxes2 w 3 (pav ti me la) 31 4 (scv (.slice (o 0) (l 0) (k 0)) (.slice (o 1) (l 1) (k 1)) (.slice (o 2) (l 2) (k 2)) (.slice (o 3) (l 3) (k 3))) 34
  have hbw:=hideit hb
  replace hb:Hid (∀ i,i < 4 → BV (.slice (o i) (l i) (k i)) (l i) (f i) w1):=fun i hi=>(hbw.out i hi).ext hE.out
  clear hbw
  replace hC:=hideit (hC.out.ext hE.out)
  replace hTM:=hideit (hTM.out.ext hE.out)
  go_enter Tryd.func4,Tryd.ntmps4
  go_upto_region 1 with (fail)
  rw [← hd.out,← hw.out,← hc.out]
  clear hw hc hd
  refine wp_region_ladm Ext (fun X=>Ext w1 X) (mkP w1.heap.size) [18] [] [(0,1),(0,2),(0,5),(0,6),(0,9),(0,10),(0,13),(0,14),(2,0),(1,3),(2,4),(1,7),(2,8),(1,11),(2,12),(1,15),(0,16),(2,17),(1,18)] (by kernel_rfl) (by kernel_rfl) (by decide +kernel) (by decide +kernel) (by decide +kernel) (by decide +kernel) (mkP_cl _) (ext_clA w1) ((Ext.refl w1).draw) ?_
  refine wpQ_f _ (.pointer (some ⟨d,0,none⟩)) rfl rfl (fun X hX=>by simp [go_sem]) ?_
  simp only [jw,jz,kj,jk,jq,jv,jy]
  refine wpQ_f _ (.slice (o 0) (l 0) (k 0)) rfl rfl (fun X hX=>by have e:X.cell? ⟨d,0,none⟩ = some (.slice (o 0) (l 0) (k 0)):=(H1.out.carry hX).1 0 (by decide); simp [go_sem,e]) ?_
  simp only [jw,jz,kj,jk,jq,jv,jy]
  refine wpQ_f _ (.pointer (some ⟨d,1,none⟩)) rfl rfl (fun X hX=>by simp [go_sem]) ?_
  simp only [jw,jz,kj,jk,jq,jv,jy]
  refine wpQ_f _ (.slice (o 1) (l 1) (k 1)) rfl rfl (fun X hX=>by have e:X.cell? ⟨d,1,none⟩ = some (.slice (o 1) (l 1) (k 1)):=(H1.out.carry hX).1 1 (by decide); simp [go_sem,e]) ?_
  simp only [jw,jz,kj,jk,jq,jv,jy]
  refine wpQ_f _ (.pointer (some ⟨d,2,none⟩)) rfl rfl (fun X hX=>by simp [go_sem]) ?_
  simp only [jw,jz,kj,jk,jq,jv,jy]
  refine wpQ_f _ (.slice (o 2) (l 2) (k 2)) rfl rfl (fun X hX=>by have e:X.cell? ⟨d,2,none⟩ = some (.slice (o 2) (l 2) (k 2)):=(H1.out.carry hX).1 2 (by decide); simp [go_sem,e]) ?_
  simp only [jw,jz,kj,jk,jq,jv,jy]
  refine wpQ_f _ (.pointer (some ⟨d,3,none⟩)) rfl rfl (fun X hX=>by simp [go_sem]) ?_
  simp only [jw,jz,kj,jk,jq,jv,jy]
  refine wpQ_f _ (.slice (o 3) (l 3) (k 3)) rfl rfl (fun X hX=>by have e:X.cell? ⟨d,3,none⟩ = some (.slice (o 3) (l 3) (k 3)):=(H1.out.carry hX).1 3 (by decide); simp [go_sem,e]) ?_
  simp only [jw,jz,kj,jk,jq,jv,jy]
  refine wpQ_m _ rfl rfl (fun X hX=>⟨.slice (some ⟨X.heap.size,0,none⟩) 0 0,X.alloc (.cells #[] 5),by simp [go_sem],⟨own_empty X 0 5 _ (Nat.zero_le _),_,rfl⟩,(Below.refl _ _).alloc (Nat.le_refl _) _⟩) ?_
  rintro v0 -
  simp only [List.getElem_toArray,List.getElem_cons_zero,Act.put,List.setIfInBounds_toArray,List.set_cons_zero,List.set_cons_succ]
  refine wpQ_app _ rfl rfl (.tmp 12) (.tmp 14) rfl v0 (.slice (o 0) (l 0) (k 0)) (l 0) (f 0) rfl rfl ((ext_clA w1).and (mkP_cl w1.heap.size 0 v0)) (fun X hX=>hX.2) (fun X hX=>(hb.out 0 (by decide)).ext hX.1) (hlb 0 (by decide)) ?_
  intro o0 c0
  simp only [jw,jz,kj,jk,jq,jv,jy]
  refine wpQ_m _ rfl rfl (fun X hX=>⟨.slice (some ⟨X.heap.size,0,none⟩) 0 0,X.alloc (.cells #[] 5),by simp [go_sem],⟨own_empty X 0 5 _ (Nat.zero_le _),_,rfl⟩,(Below.refl _ _).alloc (Nat.le_refl _) _⟩) ?_
  rintro v1 -
  simp only [jw,jz,kj,jk,jq,jv,jy]
  refine wpQ_app _ rfl rfl (.tmp 16) (.tmp 18) rfl v1 (.slice (o 1) (l 1) (k 1)) (l 1) (f 1) rfl rfl ((((ext_clA w1).and (mkP_cl w1.heap.size 0 v0)).and (ownCl _ _ _)).and (mkP_cl w1.heap.size 4 v1)) (fun X hX=>hX.2) (fun X hX=>(hb.out 1 (by decide)).ext hX.1.1.1) (hlb 1 (by decide)) ?_
  intro o1 c1
  simp only [jw,jz,kj,jk,jq,jv,jy]
  refine wpQ_m _ rfl rfl (fun X hX=>⟨.slice (some ⟨X.heap.size,0,none⟩) 0 0,X.alloc (.cells #[] 5),by simp [go_sem],⟨own_empty X 0 5 _ (Nat.zero_le _),_,rfl⟩,(Below.refl _ _).alloc (Nat.le_refl _) _⟩) ?_
  rintro v2 -
  simp only [jw,jz,kj,jk,jq,jv,jy]
  refine wpQ_app _ rfl rfl (.tmp 20) (.tmp 22) rfl v2 (.slice (o 2) (l 2) (k 2)) (l 2) (f 2) rfl rfl ((((((ext_clA w1).and (mkP_cl w1.heap.size 0 v0)).and (ownCl _ _ _)).and (mkP_cl w1.heap.size 4 v1)).and (ownCl _ _ _)).and (mkP_cl w1.heap.size 8 v2)) (fun X hX=>hX.2) (fun X hX=>(hb.out 2 (by decide)).ext hX.1.1.1.1.1) (hlb 2 (by decide)) ?_
  intro o2 c2
  simp only [jw,jz,kj,jk,jq,jv,jy]
  refine wpQ_m _ rfl rfl (fun X hX=>⟨.slice (some ⟨X.heap.size,0,none⟩) 0 0,X.alloc (.cells #[] 5),by simp [go_sem],⟨own_empty X 0 5 _ (Nat.zero_le _),_,rfl⟩,(Below.refl _ _).alloc (Nat.le_refl _) _⟩) ?_
  rintro v3 -
  simp only [jw,jz,kj,jk,jq,jv,jy]
  refine wpQ_app _ rfl rfl (.tmp 24) (.tmp 26) rfl v3 (.slice (o 3) (l 3) (k 3)) (l 3) (f 3) rfl rfl ((((((((ext_clA w1).and (mkP_cl w1.heap.size 0 v0)).and (ownCl _ _ _)).and (mkP_cl w1.heap.size 4 v1)).and (ownCl _ _ _)).and (mkP_cl w1.heap.size 8 v2)).and (ownCl _ _ _)).and (mkP_cl w1.heap.size 12 v3)) (fun X hX=>hX.2) (fun X hX=>(hb.out 3 (by decide)).ext hX.1.1.1.1.1.1.1) (hlb 3 (by decide)) ?_
  intro o3 c3
  simp only [jw,jz,kj,jk,jq,jv,jy]
  refine wpQ_f _ (.agg (row 4 (scv (.slice o0 (l 0) c0) (.slice o1 (l 1) c1) (.slice o2 (l 2) c2) (.slice o3 (l 3) c3))).toArray) rfl rfl (fun X hX=>xbuild 34 [(0,.tmp 15),(1,.tmp 19),(2,.tmp 23),(3,.tmp 27)] rfl _ (bld34 _ _ _ _ _ _ _ _ _ _ _ _ X)) ?_
  simp only [jw,jz,kj,jk,jq,jv,jy]
  refine wpQ_m _ rfl rfl (fun X hX=>⟨.pointer (some ⟨X.heap.size,0,none⟩),X.alloc (.cells (row 4 (scv (.slice none 0 0) (.slice none 0 0) (.slice none 0 0) (.slice none 0 0))).toArray 34),xalloc 34 _ rfl (z34 _),⟨X.heap.size,_,rfl,Below.size hX,RowAt.new X 4 (scv (.slice none 0 0) (.slice none 0 0) (.slice none 0 0) (.slice none 0 0)) 34,heap_alloc_new X _⟩,(Below.refl _ _).alloc (Nat.le_refl _) _⟩) ?_
  rintro v9 ⟨_,_,hh,cs9,rfl,hhb,_⟩
  simp only [jw,jz,kj,jk,jq,jv,jy]
  refine wpQ_st _ rfl rfl fun X hX=>?_
  obtain ⟨b',cs,f5,_,R5,T5⟩:=hX.2
  injection f5 with f5
  injection f5 with f5
  injection f5 with f5
  subst f5
  have hX1:=hX.1.1.1.1.1.1.1.1.1
  have P3:=hX.1.2
  have P2:=hX.1.1.1.2
  have P1:=hX.1.1.1.1.1.2
  have P0:=hX.1.1.1.1.1.1.1.2
  have N0:=hideit (R5.cells (g':=scv (.slice o0 (l 0) c0) (.slice o1 (l 1) c1) (.slice o2 (l 2) c2) (.slice o3 (l 3) c3)))
  have NE:=hideit (below_setCells hh hhb (row 4 (scv (.slice o0 (l 0) c0) (.slice o1 (l 1) c1) (.slice o2 (l 2) c2) (.slice o3 (l 3) c3))) 0 _ hX1)
  have Q0:=hideit (own_setCells (own_ty P0 T5) (row 4 (scv (.slice o0 (l 0) c0) (.slice o1 (l 1) c1) (.slice o2 (l 2) c2) (.slice o3 (l 3) c3))) 0 X P0)
  have Q1:=hideit (own_setCells (own_ty P1 T5) (row 4 (scv (.slice o0 (l 0) c0) (.slice o1 (l 1) c1) (.slice o2 (l 2) c2) (.slice o3 (l 3) c3))) 0 X P1)
  have Q2:=hideit (own_setCells (own_ty P2 T5) (row 4 (scv (.slice o0 (l 0) c0) (.slice o1 (l 1) c1) (.slice o2 (l 2) c2) (.slice o3 (l 3) c3))) 0 X P2)
  have Q3:=hideit (own_setCells (own_ty P3 T5) (row 4 (scv (.slice o0 (l 0) c0) (.slice o1 (l 1) c1) (.slice o2 (l 2) c2) (.slice o3 (l 3) c3))) 0 X P3)
  refine ⟨X.setCells hh 0 (row 4 (scv (.slice o0 (l 0) c0) (.slice o1 (l 1) c1) (.slice o2 (l 2) c2) (.slice o3 (l 3) c3))),xstore 34 (.tmp 7) (.tmp 28) rfl hh 4 _ (scv (.slice o0 (l 0) c0) (.slice o1 (l 1) c1) (.slice o2 (l 2) c2) (.slice o3 (l 3) c3)) rfl rfl R5 infoSc (fun j hj=>by rcases (by omega:j = 0 ∨ j = 1 ∨ j = 2 ∨ j = 3) with rfl | rfl | rfl | rfl <;> rfl),fun Y=>Y = X.setCells hh 0 (row 4 (scv (.slice o0 (l 0) c0) (.slice o1 (l 1) c1) (.slice o2 (l 2) c2) (.slice o3 (l 3) c3))),rfl,.inl (by simp),?_⟩
  simp only [List.getElem_toArray,List.getElem_cons_zero,List.getElem_cons_succ,Act.put]
  refine wpQ_nil fun Y hY=>?_
  rw [← hY] at N0 NE Q0 Q1 Q2 Q3
  clear hY R5 hX1 P0 P1 P2 P3 T5 hX hhb
  replace H0:=hideit (H0.out.carry NE.out)
  replace H1:=hideit (H1.out.carry NE.out)
  replace hC:=hideit (hC.out.ext NE.out)
  replace hTM:=hideit (hTM.out.ext NE.out)
  have hb1:Hid (∀ i,i < 4 → BV (.slice (o i) (l i) (k i)) (l i) (f i) Y):=fun i hi=>(hb.out i hi).ext NE.out
  have hb2:Hid (∀ i,i < 4 → BV (.slice (f4 o0 o1 o2 o3 i) (l i) (f4 c0 c1 c2 c3 i)) (l i) (f i) Y):=fun i hi=>by
    rcases (by omega:i = 0 ∨ i = 1 ∨ i = 2 ∨ i = 3) with rfl | rfl | rfl | rfl
    · exact Q0.out.bv
    · exact Q1.out.bv
    · exact Q2.out.bv
    · exact Q3.out.bv
  replace hE:=hideit (Ext.trans hE.out NE.out)
  have H2:=N0
  clear N0 NE Q0 Q1 Q2 Q3 hb
  obtain ⟨oo,hoo⟩:∃ z,z = f4 o0 o1 o2 o3:=⟨_,rfl⟩
  obtain ⟨kk,hkk⟩:∃ z,z = f4 c0 c1 c2 c3:=⟨_,rfl⟩
  rw [← hoo,← hkk] at hb2
  replace H2:Hid (RowAt hh 4 (scv (.slice (oo 0) (l 0) (kk 0)) (.slice (oo 1) (l 1) (kk 1)) (.slice (oo 2) (l 2) (kk 2)) (.slice (oo 3) (l 3) (kk 3))) Y):=by rw [hoo,hkk]; exact H2.out
  clear hoo hkk
  have hBY:=hideit (Ext.refl Y)
  have hY0:=hb1
  have hY2:=hb2
  go_upto_region 2 with (fail)
  refine wp_region_lit ?_
  refine xm [some (.int .i64 (n))] (by kernel_rfl) (by simp [xr,go_sem]) ?_
  simp only [xw,p0,p1,p2,p3]
  refine wpList_run rfl (.agg (row 3 (pav ti me la)).toArray) (xload 31 (.tmp 4) rfl c 0 3 _ rfl H0.out.range Tryd.underlying31 rfl infoPa) ?_
  simp only [jk,jq,jv,jy]
  refine wpList_run rfl (.agg (row 4 (scv (.slice (oo 0) (l 0) (kk 0)) (.slice (oo 1) (l 1) (kk 1)) (.slice (oo 2) (l 2) (kk 2)) (.slice (oo 3) (l 3) (kk 3)))).toArray) (xload 34 (.tmp 7) rfl hh 0 4 _ rfl H2.out.range Tryd.underlying34 rfl infoSc) ?_
  simp only [jk,jq,jv,jy]
  refine wpList_call rfl (by simp [go_sem]) ((hk1.out oo kk Y hb2.out hC.out hTM.out).mono ?_)
  rintro e y8 ⟨va8,rfl,V8,hX8⟩
  refine ⟨_,rfl,?_⟩
  simp only [jk,jq,jv,jy]
  replace H0:=hideit (H0.out.carry hX8)
  replace H1:=hideit (H1.out.carry hX8)
  replace H2:=hideit (H2.out.carry hX8)
  replace hC:=hideit (hC.out.ext hX8)
  replace hTM:=hideit (hTM.out.ext hX8)
  replace hE:=hideit (Ext.trans hE.out hX8)
  replace V8:=hideit V8
  have bq1:Hid (∀ i,i < 4 → BV (.slice (o i) (l i) (k i)) (l i) (f i) y8):=fun i hi=>(hb1.out i hi).ext hX8
  have bq2:Hid (∀ i,i < 4 → BV (.slice (oo i) (l i) (kk i)) (l i) (f i) y8):=fun i hi=>(hb2.out i hi).ext hX8
  clear hb1 hb2
  have hb1:=bq1
  have hb2:=bq2
  clear bq1 bq2 hX8
  refine xm [some (.tuple #[va8,.int .i64 (R)]),some (va8),some (.int .i64 (R)),some (va8),some (.int .i64 (R))] (by kernel_rfl) (by simp [xr,go_sem]) ?_
  simp only [xw,p0,p1,p2,p3]
  go_upto_region 3 with (fail)
  refine wp_region_lit ?_
  refine xm [some (.int .i64 (n))] (by kernel_rfl) (by simp [xr,go_sem]) ?_
  simp only [xw,p0,p1,p2,p3]
  refine wpList_run rfl (.agg (row 3 (pav ti me la)).toArray) (xload 31 (.tmp 4) rfl c 0 3 _ rfl H0.out.range Tryd.underlying31 rfl infoPa) ?_
  simp only [jk,jq,jv,jy]
  refine wpList_run rfl (.agg (row 4 (scv (.slice (o 0) (l 0) (k 0)) (.slice (o 1) (l 1) (k 1)) (.slice (o 2) (l 2) (k 2)) (.slice (o 3) (l 3) (k 3)))).toArray) (xload 34 (.tmp 5) rfl d 0 4 _ rfl H1.out.range Tryd.underlying34 rfl infoSc) ?_
  simp only [jk,jq,jv,jy]
  refine wpList_call rfl (by simp [go_sem]) ((hk2.out o k y8 hb1.out).mono ?_)
  rintro e y9 ⟨va9,rfl,V9,hX9⟩
  refine ⟨_,rfl,?_⟩
  simp only [jk,jq,jv,jy]
  replace H0:=hideit (H0.out.carry hX9)
  replace H1:=hideit (H1.out.carry hX9)
  replace H2:=hideit (H2.out.carry hX9)
  replace hC:=hideit (hC.out.ext hX9)
  replace hTM:=hideit (hTM.out.ext hX9)
  replace V8:=hideit (V8.out.ext hX9)
  replace hE:=hideit (Ext.trans hE.out hX9)
  replace V9:=hideit V9
  have bq1:Hid (∀ i,i < 4 → BV (.slice (o i) (l i) (k i)) (l i) (f i) y9):=fun i hi=>(hb1.out i hi).ext hX9
  have bq2:Hid (∀ i,i < 4 → BV (.slice (oo i) (l i) (kk i)) (l i) (f i) y9):=fun i hi=>(hb2.out i hi).ext hX9
  clear hb1 hb2
  have hb1:=bq1
  have hb2:=bq2
  clear bq1 bq2 hX9
  refine xm [some (.tuple #[va9,.int .i64 (R)]),some (va9),some (.int .i64 (R)),some (va9),some (.int .i64 (R))] (by kernel_rfl) (by simp [xr,go_sem]) ?_
  simp only [xw,p0,p1,p2,p3]
  clear hk1 hk2 hBY hY0 hY2
  have cs8:Hid (∀ X,Ext y9 X → (convert 32 9 va8).run Tryd.prog X = .ok (.string KS) X):=fun X hX=>by rw [hKS.out]; exact convV _ _ _ X (V8.out.ext hX)
  have cs9:Hid (∀ X,Ext y9 X → (convert 32 9 va9).run Tryd.prog X = .ok (.string KS) X):=fun X hX=>by rw [hKS.out]; exact convV _ _ _ X (V9.out.ext hX)
  have ct1:Hid (∀ i,i < 4 → ∀ X,Ext y9 X → (convert 32 9 (.slice (o i) (l i) (k i))).run Tryd.prog X = .ok (.string (S i)) X):=fun i hi X hX=>by rw [hS.out]; exact convV _ _ _ X ((hb1.out i hi).ext hX)
  have ct2:Hid (∀ i,i < 4 → ∀ X,Ext y9 X → (convert 32 9 (.slice (oo i) (l i) (kk i))).run Tryd.prog X = .ok (.string (S i)) X):=fun i hi X hX=>by rw [hS.out]; exact convV _ _ _ X ((hb2.out i hi).ext hX)
  clear V8 V9 hb1 hb2
  obtain ⟨s0,hs0⟩:∃ z,z = S 0:=⟨_,rfl⟩
  obtain ⟨s1,hs1⟩:∃ z,z = S 1:=⟨_,rfl⟩
  have e10:=hideit (ct1.out 0 (by decide))
  have e11:=hideit (ct1.out 1 (by decide))
  have e20:=hideit (ct2.out 0 (by decide))
  have e21:=hideit (ct2.out 1 (by decide))
  rw [← hs0] at e10 e20
  rw [← hs1] at e11 e21
  clear ct1 ct2 hs0 hs1 hS hKS
  have hq:=hideit (Ext.refl y9)
  go_upto_region 4 with (fail)
  replace H0:=hideit H0.out.drew
  replace H1:=hideit H1.out.drew
  replace H2:=hideit H2.out.drew
  replace hC:=hideit (hC.out.ext (Ext.draw (Ext.refl y9)))
  replace hTM:=hideit (hTM.out.ext (Ext.draw (Ext.refl y9)))
  replace hE:=hideit (Ext.draw hE.out)
  replace hq:=hideit (Ext.draw hq.out)
  refine wp_region_lad (fun X=>Ext y9.drew X) [(true,0),(false,1),(false,2),(false,3),(false,4),(false,5),(false,6),(false,7),(false,8),(false,9),(false,10),(false,11),(false,12),(false,13),(false,14),(false,15),(false,16),(false,17),(false,18),(false,19),(false,20),(false,21),(false,22),(false,23),(false,24),(false,25),(false,26),(false,27),(false,28),(false,29),(false,30),(false,31),(false,32),(false,34),(true,33),(true,35),(false,36),(false,37),(false,38),(false,39),(false,41),(true,40),(true,42),(false,43),(false,44),(false,45)] (by kernel_rfl) (by kernel_rfl) (by decide +kernel) (by decide +kernel) (by decide +kernel) (by decide +kernel) (Ext.refl _) ?_
  refine wpX_call _ rfl rfl (by simp [go_sem]) ((alives y9.drew hC.out hTM.out).mono ?_)
  rintro e y1 ⟨rfl,hX2⟩
  refine ⟨_,rfl,fun X=>Ext y1 X,fun X hX=>Ext.trans hX2 hX,Ext.refl _,?_⟩
  simp only [List.getElem_toArray,List.getElem_cons_zero,Act.put,List.setIfInBounds_toArray,List.set_cons_zero,List.set_cons_succ]
  replace H0:=hideit (H0.out.carry hX2)
  replace H1:=hideit (H1.out.carry hX2)
  replace H2:=hideit (H2.out.carry hX2)
  replace hC:=hideit (hC.out.ext hX2)
  replace hTM:=hideit (hTM.out.ext hX2)
  replace hE:=hideit (Ext.trans hE.out hX2)
  replace hq:=hideit (Ext.trans hq.out hX2)
  clear hX2
  refine wpX_f _ (.bool true) rfl rfl (fun X _=>by simp [go_sem]) ?_
  simp only [jw,jz,kj,jk,jq,jv,jy]
  refine wpX_f _ (va8) rfl rfl (fun X _=>by simp [go_sem]) ?_
  simp only [jw,jz,kj,jk,jq,jv,jy]
  refine wpX_f _ (.string KS) rfl rfl (fun X hX=>(by have q:=cs8.out X (Ext.trans hq.out hX); simp [go_sem,q])) ?_
  simp only [jw,jz,kj,jk,jq,jv,jy]
  refine wpX_f _ (va9) rfl rfl (fun X _=>by simp [go_sem]) ?_
  simp only [jw,jz,kj,jk,jq,jv,jy]
  refine wpX_f _ (.string KS) rfl rfl (fun X hX=>(by have q:=cs9.out X (Ext.trans hq.out hX); simp [go_sem,q])) ?_
  simp only [jw,jz,kj,jk,jq,jv,jy]
  refine wpX_f _ (.bool true) rfl rfl (fun X _=>by simp [go_sem]) ?_
  simp only [jw,jz,kj,jk,jq,jv,jy]
  refine wpX_f _ (.bool true) rfl rfl (fun X _=>by simp [go_sem]) ?_
  simp only [jw,jz,kj,jk,jq,jv,jy]
  refine wpX_f _ (.bool true) rfl rfl (fun X _=>by simp [go_sem]) ?_
  simp only [jw,jz,kj,jk,jq,jv,jy]
  refine wpX_f _ (.int .i64 (R)) rfl rfl (fun X _=>by simp [go_sem]) ?_
  simp only [jw,jz,kj,jk,jq,jv,jy]
  refine wpX_f _ (.int .i64 (R)) rfl rfl (fun X _=>by simp [go_sem]) ?_
  simp only [jw,jz,kj,jk,jq,jv,jy]
  refine wpX_f _ (.bool true) rfl rfl (fun X _=>by simp [go_sem]) ?_
  simp only [jw,jz,kj,jk,jq,jv,jy]
  refine wpX_f _ (.bool true) rfl rfl (fun X _=>by simp [go_sem]) ?_
  simp only [jw,jz,kj,jk,jq,jv,jy]
  refine wpX_f _ (.bool true) rfl rfl (fun X _=>by simp [go_sem]) ?_
  simp only [jw,jz,kj,jk,jq,jv,jy]
  refine wpX_f _ (.pointer (some ⟨hh,0,none⟩)) rfl rfl (fun X _=>by simp [go_sem]) ?_
  simp only [jw,jz,kj,jk,jq,jv,jy]
  refine wpX_f _ (.slice (oo 0) (l 0) (kk 0)) rfl rfl (fun X hX=>by have m3:X.cell? ⟨hh,0,none⟩ = some (.slice (oo 0) (l 0) (kk 0)):=(H2.out.carry hX).1 0 (by decide); simp [go_sem,m3]) ?_
  simp only [jw,jz,kj,jk,jq,jv,jy]
  refine wpX_f _ (.string s0) rfl rfl (fun X hX=>(by have q:=e20.out X (Ext.trans hq.out hX); simp [go_sem,q])) ?_
  simp only [jw,jz,kj,jk,jq,jv,jy]
  refine wpX_f _ (.pointer (some ⟨d,0,none⟩)) rfl rfl (fun X _=>by simp [go_sem]) ?_
  simp only [jw,jz,kj,jk,jq,jv,jy]
  refine wpX_f _ (.slice (o 0) (l 0) (k 0)) rfl rfl (fun X hX=>by have m4:X.cell? ⟨d,0,none⟩ = some (.slice (o 0) (l 0) (k 0)):=(H1.out.carry hX).1 0 (by decide); simp [go_sem,m4]) ?_
  simp only [jw,jz,kj,jk,jq,jv,jy]
  refine wpX_f _ (.string s0) rfl rfl (fun X hX=>(by have q:=e10.out X (Ext.trans hq.out hX); simp [go_sem,q])) ?_
  simp only [jw,jz,kj,jk,jq,jv,jy]
  refine wpX_f _ (.bool true) rfl rfl (fun X _=>by simp [go_sem]) ?_
  simp only [jw,jz,kj,jk,jq,jv,jy]
  refine wpX_f _ (.bool true) rfl rfl (fun X _=>by simp [go_sem]) ?_
  simp only [jw,jz,kj,jk,jq,jv,jy]
  refine wpX_f _ (.bool true) rfl rfl (fun X _=>by simp [go_sem]) ?_
  simp only [jw,jz,kj,jk,jq,jv,jy]
  refine wpX_f _ (.pointer (some ⟨hh,1,none⟩)) rfl rfl (fun X _=>by simp [go_sem]) ?_
  simp only [jw,jz,kj,jk,jq,jv,jy]
  refine wpX_f _ (.slice (oo 1) (l 1) (kk 1)) rfl rfl (fun X hX=>by have m5:X.cell? ⟨hh,1,none⟩ = some (.slice (oo 1) (l 1) (kk 1)):=(H2.out.carry hX).1 1 (by decide); simp [go_sem,m5]) ?_
  simp only [jw,jz,kj,jk,jq,jv,jy]
  refine wpX_f _ (.string s1) rfl rfl (fun X hX=>(by have q:=e21.out X (Ext.trans hq.out hX); simp [go_sem,q])) ?_
  simp only [jw,jz,kj,jk,jq,jv,jy]
  refine wpX_f _ (.pointer (some ⟨d,1,none⟩)) rfl rfl (fun X _=>by simp [go_sem]) ?_
  simp only [jw,jz,kj,jk,jq,jv,jy]
  refine wpX_f _ (.slice (o 1) (l 1) (k 1)) rfl rfl (fun X hX=>by have m6:X.cell? ⟨d,1,none⟩ = some (.slice (o 1) (l 1) (k 1)):=(H1.out.carry hX).1 1 (by decide); simp [go_sem,m6]) ?_
  simp only [jw,jz,kj,jk,jq,jv,jy]
  refine wpX_f _ (.string s1) rfl rfl (fun X hX=>(by have q:=e11.out X (Ext.trans hq.out hX); simp [go_sem,q])) ?_
  simp only [jw,jz,kj,jk,jq,jv,jy]
  refine wpX_f _ (.bool true) rfl rfl (fun X _=>by simp [go_sem]) ?_
  simp only [jw,jz,kj,jk,jq,jv,jy]
  refine wpX_f _ (.bool true) rfl rfl (fun X _=>by simp [go_sem]) ?_
  simp only [jw,jz,kj,jk,jq,jv,jy]
  refine wpX_f _ (.bool true) rfl rfl (fun X _=>by simp [go_sem]) ?_
  simp only [jw,jz,kj,jk,jq,jv,jy]
  refine wpX_f _ (.agg (row 3 (pav ti me la)).toArray) rfl rfl (fun X hX=>xload 31 (.tmp 4) rfl c 0 3 _ rfl (H0.out.carry hX).range Tryd.underlying31 rfl infoPa) ?_
  simp only [jw,jz,kj,jk,jq,jv,jy]
  refine wpX_f _ (.agg (row 3 (pav ti me la)).toArray) rfl rfl (fun X hX=>xload 31 (.tmp 4) rfl c 0 3 _ rfl (H0.out.carry hX).range Tryd.underlying31 rfl infoPa) ?_
  simp only [jw,jz,kj,jk,jq,jv,jy]
  refine wpX_call _ rfl rfl (by simp [go_sem]) ((hc1.out y1).mono ?_)
  rintro e y7 ⟨rfl,hX8⟩
  refine ⟨_,rfl,fun X=>Ext y7 X,fun X hX=>Ext.trans hX8 hX,Ext.refl _,?_⟩
  simp only [jw,jz,kj,jk,jq,jv,jy]
  replace H0:=hideit (H0.out.carry hX8)
  replace H1:=hideit (H1.out.carry hX8)
  replace H2:=hideit (H2.out.carry hX8)
  replace hC:=hideit (hC.out.ext hX8)
  replace hTM:=hideit (hTM.out.ext hX8)
  replace hE:=hideit (Ext.trans hE.out hX8)
  replace hq:=hideit (Ext.trans hq.out hX8)
  clear hX8
  refine wpX_call _ rfl rfl (by simp [go_sem]) ((hc2.out y7).mono ?_)
  rintro e y9 ⟨rfl,hX10⟩
  refine ⟨_,rfl,fun X=>Ext y9 X,fun X hX=>Ext.trans hX10 hX,Ext.refl _,?_⟩
  simp only [jw,jz,kj,jk,jq,jv,jy]
  replace H0:=hideit (H0.out.carry hX10)
  replace H1:=hideit (H1.out.carry hX10)
  replace H2:=hideit (H2.out.carry hX10)
  replace hC:=hideit (hC.out.ext hX10)
  replace hTM:=hideit (hTM.out.ext hX10)
  replace hE:=hideit (Ext.trans hE.out hX10)
  replace hq:=hideit (Ext.trans hq.out hX10)
  clear hX10
  refine wpX_f _ (.bool true) rfl rfl (fun X _=>by simp [go_sem]) ?_
  simp only [jw,jz,kj,jk,jq,jv,jy]
  refine wpX_f _ (.bool true) rfl rfl (fun X _=>by simp [go_sem]) ?_
  simp only [jw,jz,kj,jk,jq,jv,jy]
  refine wpX_f _ (.bool true) rfl rfl (fun X _=>by simp [go_sem]) ?_
  simp only [jw,jz,kj,jk,jq,jv,jy]
  refine wpX_f _ (.agg (row 3 (pav ti me la)).toArray) rfl rfl (fun X hX=>xload 31 (.tmp 4) rfl c 0 3 _ rfl (H0.out.carry hX).range Tryd.underlying31 rfl infoPa) ?_
  simp only [jw,jz,kj,jk,jq,jv,jy]
  refine wpX_f _ (.agg (row 3 (pav ti me la)).toArray) rfl rfl (fun X hX=>xload 31 (.tmp 4) rfl c 0 3 _ rfl (H0.out.carry hX).range Tryd.underlying31 rfl infoPa) ?_
  simp only [jw,jz,kj,jk,jq,jv,jy]
  refine wpX_call _ rfl rfl (by simp [go_sem]) ((hp1.out y9).mono ?_)
  rintro e y11 ⟨rfl,hX12⟩
  refine ⟨_,rfl,fun X=>Ext y11 X,fun X hX=>Ext.trans hX12 hX,Ext.refl _,?_⟩
  simp only [jw,jz,kj,jk,jq,jv,jy]
  replace H0:=hideit (H0.out.carry hX12)
  replace H1:=hideit (H1.out.carry hX12)
  replace H2:=hideit (H2.out.carry hX12)
  replace hC:=hideit (hC.out.ext hX12)
  replace hTM:=hideit (hTM.out.ext hX12)
  replace hE:=hideit (Ext.trans hE.out hX12)
  replace hq:=hideit (Ext.trans hq.out hX12)
  clear hX12
  refine wpX_call _ rfl rfl (by simp [go_sem]) ((hp2.out y11).mono ?_)
  rintro e y13 ⟨rfl,hX14⟩
  refine ⟨_,rfl,fun X=>Ext y13 X,fun X hX=>Ext.trans hX14 hX,Ext.refl _,?_⟩
  simp only [jw,jz,kj,jk,jq,jv,jy]
  replace H0:=hideit (H0.out.carry hX14)
  replace H1:=hideit (H1.out.carry hX14)
  replace H2:=hideit (H2.out.carry hX14)
  replace hC:=hideit (hC.out.ext hX14)
  replace hTM:=hideit (hTM.out.ext hX14)
  replace hE:=hideit (Ext.trans hE.out hX14)
  replace hq:=hideit (Ext.trans hq.out hX14)
  clear hX14
  refine wpX_f _ (.bool true) rfl rfl (fun X _=>by simp [go_sem]) ?_
  simp only [jw,jz,kj,jk,jq,jv,jy]
  refine wpX_f _ (.bool true) rfl rfl (fun X _=>by simp [go_sem]) ?_
  simp only [jw,jz,kj,jk,jq,jv,jy]
  refine wpX_f _ (.bool true) rfl rfl (fun X _=>by simp [go_sem]) ?_
  simp only [jw,jz,kj,jk,jq,jv,jy]
  refine wpX_nil ?_
  go_wp2
  go_ret
  exact ⟨rfl,hE.out⟩
end Go.Proofs.YtfbmeclpcgdmhabDoor
namespace Go.Proofs.YtfbmeclpcgdmhabDoor
open Go.ChangeShapes Go.WideShapes Go.ChangeAt Go.RowKit
set_option linter.unusedVariables false
theorem sub_cells {cs:List Value} {off m i:Nat} (hi:i < m):((cs.drop off).take m)[i]? = cs[off + i]?:=by
  rw [List.getElem?_take_of_lt hi,List.getElem?_drop]
theorem row_of {cs:List Value} {n:Nat} {g:Nat → Value} (hl:cs.length = n) (h:∀ i,i < n → cs[i]? = some (g i)):cs = row n g:=by
  apply List.ext_getElem?
  intro i
  by_cases hi:i < n
  · rw [h i hi,row_get n g i hi]
  · rw [List.getElem?_eq_none (by omega),List.getElem?_eq_none (by rw [row_length]; omega)]
theorem okWide_st {P:Program} {w:World} {r:Reach} {base:Nat} {t:TypeId} {v:Value} {fs:Array Field} (ht:P.underlying t = some (.struct fs)) (h:Value.okWide P w r base t v):∃ cs,v = .agg cs ∧ cs.size = P.cellsOf t ∧ Row.okWide P w r base t cs:=by
  unfold Value.okWide at h
  rw [ht] at h
  exact h
theorem trod_st {H:Type} {enc:TypeId × Value → H} {P:Program} {w:World} {base:Nat} {spare:Nat → Bool} {held:Bool} {t:TypeId} {fs:List Field} {fuel:Nat} {cs:List Value} {x:DataW H × List MemPlace} (ht:P.underlying t = some (.struct fs.toArray)) (h:DataW.trod enc P w base spare held fuel t cs = some x):
    ∃ n,cs.length = P.cellsOf t ∧ ∀ (i:Nat) (f:Field),fs[i]? = some f → ∃ y,DataW.trod enc P w base spare held n f.type ((cs.drop f.offset).take (P.cellsOf f.type)) = some y:=by
  obtain ⟨xs,n,_,_,hl,hlen,hf⟩:=DataW.trod_struct ht h
  refine ⟨n,hl,fun i f hi=>?_⟩
  have hi2:fs.toArray[i]? = some f:=by simpa using hi
  have hlt:i < xs.length:=by
    have:=(List.getElem?_eq_some_iff.1 hi).1
    simp at hlen
    omega
  refine ⟨xs[i],?_⟩
  rw [hf i f hi2,List.getElem?_eq_getElem hlt]
set_option maxRecDepth 100000 in
theorem pa_cells {H:Type} {enc:TypeId × Value → H} {W:World} {base:Nat} {spare:Nat → Bool} {held:Bool} {n:Nat} {cs:List Value} {x:DataW H × List MemPlace} (h:DataW.trod enc Tryd.prog W base spare held n 31 cs = some x):
    ∃ a b c,∀ i,i < 3 → cs[i]? = some (pav a b c i):=by
  have c3:Tryd.prog.cellsOf 3 = 1:=by kernel_rfl
  obtain ⟨m,hl,hf⟩:=trod_st (fs := [_,_,_]) Tryd.underlying31 h
  have _:=hl
  · obtain ⟨y0,h0⟩:=hf 0 _ rfl
    obtain ⟨y1,h1⟩:=hf 1 _ rfl
    obtain ⟨y2,h2⟩:=hf 2 _ rfl
    simp only [c3] at h0 h1 h2
    obtain ⟨k0,e0,_,_⟩:=DataW.trod_int Tryd.underlying3 h0
    obtain ⟨k1,e1,_,_⟩:=DataW.trod_int Tryd.underlying3 h1
    obtain ⟨k2,e2,_,_⟩:=DataW.trod_int Tryd.underlying3 h2
    refine ⟨k0,k1,k2,fun i hi=>?_⟩
    have q0:=congrArg (·[0]?) e0
    have q1:=congrArg (·[0]?) e1
    have q2:=congrArg (·[0]?) e2
    simp only [sub_cells (show 0 < 1 by decide)] at q0 q1 q2
    rcases (by omega:i = 0 ∨ i = 1 ∨ i = 2) with rfl | rfl | rfl
    · exact q0
    · exact q1
    · exact q2
set_option maxRecDepth 100000 in
theorem open_pa {H:Type} {enc:TypeId × Value → H} {W:World} {r:Reach} {b0 base:Nat} {spare:Nat → Bool} {held:Bool} {v:Value} {d:DataW H} {p:List MemPlace}
    (hv:Value.okWide Tryd.prog W r b0 31 v) (h:DataW.Trod enc Tryd.prog W base spare held 31 v d p):∃ a b c,v = .agg (row 3 (pav a b c)).toArray:=by
  have hC:Tryd.prog.cellsOf 31 = 3:=by kernel_rfl
  obtain ⟨cs,rfl,hcs,_⟩:=okWide_st Tryd.underlying31 hv
  obtain ⟨fuel,hf⟩:=h
  obtain ⟨a,b,c,e⟩:=pa_cells hf
  refine ⟨a,b,c,?_⟩
  have hl:cs.toList.length = 3:=by rw [← hC,← hcs]; simp
  rw [← row_of hl e]
end Go.Proofs.YtfbmeclpcgdmhabDoor
