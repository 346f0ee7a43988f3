/-
  The document's word, where the page ahead tells it. A region that draws its order, told as in LadZ; besides, operations that only make memory may come up at any time ahead of their place in the list; no word of the program.
-/
import Derived.Test.YtfbmeclpcgdmhabDoorQk40
import Derived.Test.YtfbmeclpcgdmhabDoorQk31
namespace Go.Proofs.YtfbmeclpcgdmhabDoor
open Go.RowKit Go.BigFrame
set_option linter.unusedVariables false
set_option maxRecDepth 20000 in
set_option maxHeartbeats 4000000 in
theorem rword_p (p T M L q b c ps sl ln k:Nat) (y:Nat → BitVec 64) (w:World) (hM:RowAt p 9 (rmV T M L q b c ps sl ln k) w) (h1:0 < ps):Calls Tryd.prog 54 #[.pointer (some ⟨p,0,none⟩),.agg (row 128 (wv y)).toArray] w fun e w'=>e = .returned (.int .u64 ((y 0).toNat:Int)) ∧ Ext w w':=by
  have a1:Hid (0 < ps):=h1
  replace hM:=hideit hM
  obtain ⟨g,w1,hw,hg,H0,hE⟩:=boxes1 w 128 (wv y) 24
  replace hM:=hideit (hM.out.carry hE.out)
  go_enter Tryd.func54,Tryd.ntmps54
  go_upto_region 1 with (fail)
  rw [← hw.out,← hg.out]
  clear hw hg
  refine wp_region_lit ?_
  have m1:w1.cell? ⟨p,5,none⟩ = some (.int .i64 (ps:Int)):=hM.out.1 5 (by decide)
  refine xm [some (.pointer (some ⟨p,0,none⟩)),some (.pointer (some ⟨p,0,none⟩)),some (.pointer (some ⟨p,5,none⟩)),some (.int .i64 (ps:Int)),some (.bool true),some (.bool true),none,none,none,none,none,some (.bool true)] (by kernel_rfl) (by simp [xr,go_sem,m1,a1.out]) ?_
  simp only [xw,p0,p1,p2,p3]
  clear m1
  have cA:w1.cell? ⟨g,0,none⟩ = some (.int .u64 ((y 0).toNat:Int)):=H0.out.1 0 (by decide)
  go_upto_region 2 with (fail)
  refine wp_region_lit ?_
  refine xm [some (.pointer (some ⟨g,0,none⟩)),some (.int .u64 ((y 0).toNat:Int)),some (.int .u64 ((y 0).toNat:Int))] (by kernel_rfl) (by simp [xr,go_sem,cA]) ?_
  simp only [xw,p0,p1,p2,p3]
  go_wp2
  go_ret
  exact ⟨rfl,hE.out⟩
set_option maxRecDepth 20000 in
set_option maxHeartbeats 4000000 in
theorem rword_s (p T M L q b c ps sl ln k:Nat) (y:Nat → BitVec 64) (w:World) (hM:RowAt p 9 (rmV T M L q b c ps sl ln k) w) (h1:¬ 0 < ps) (h2:1 < sl):Calls Tryd.prog 54 #[.pointer (some ⟨p,0,none⟩),.agg (row 128 (wv y)).toArray] w fun e w'=>e = .returned (.int .u64 ((y 0).toNat:Int)) ∧ Ext w w':=by
  have a1:Hid (¬ 0 < ps):=h1
  have a2:Hid ((1:Int) < (sl:Int)):=by show _ < _; omega
  replace hM:=hideit hM
  obtain ⟨g,w1,hw,hg,H0,hE⟩:=boxes1 w 128 (wv y) 24
  replace hM:=hideit (hM.out.carry hE.out)
  go_enter Tryd.func54,Tryd.ntmps54
  go_upto_region 1 with (fail)
  rw [← hw.out,← hg.out]
  clear hw hg
  refine wp_region_lit ?_
  have m1:w1.cell? ⟨p,5,none⟩ = some (.int .i64 (ps:Int)):=hM.out.1 5 (by decide)
  have m2:w1.cell? ⟨p,6,none⟩ = some (.int .i64 (sl:Int)):=hM.out.1 6 (by decide)
  refine xm [some (.pointer (some ⟨p,0,none⟩)),some (.pointer (some ⟨p,0,none⟩)),some (.pointer (some ⟨p,5,none⟩)),some (.int .i64 (ps:Int)),some (.bool false),some (.bool false),some (.pointer (some ⟨p,0,none⟩)),some (.pointer (some ⟨p,0,none⟩)),some (.pointer (some ⟨p,6,none⟩)),some (.int .i64 (sl:Int)),some (.bool true),some (.bool true)] (by kernel_rfl) (by simp [xr,go_sem,m1,a1.out,m2,a2.out]) ?_
  simp only [xw,p0,p1,p2,p3]
  clear m1
  clear m2
  have cA:w1.cell? ⟨g,0,none⟩ = some (.int .u64 ((y 0).toNat:Int)):=H0.out.1 0 (by decide)
  go_upto_region 2 with (fail)
  refine wp_region_lit ?_
  refine xm [some (.pointer (some ⟨g,0,none⟩)),some (.int .u64 ((y 0).toNat:Int)),some (.int .u64 ((y 0).toNat:Int))] (by kernel_rfl) (by simp [xr,go_sem,cA]) ?_
  simp only [xw,p0,p1,p2,p3]
  go_wp2
  go_ret
  exact ⟨rfl,hE.out⟩
end Go.Proofs.YtfbmeclpcgdmhabDoor
namespace Go.Proofs.YtfbmeclpcgdmhabDoor
open Go.RowKit
section
variable {P:Program} {ops:Array Oper} {Q:Exit → Act → World → Prop} {brk fin:List Nat} {Mv:World → World → Prop} {R:Nat → Value → World → Prop} {C0:World → Prop}
def MakY (P:Program) (ops:Array Oper) (C0:World → Prop) (Mv:World → World → Prop) (o:Oper) (R:Value → World → Prop) (a:Act):Prop:=
  ∀ X,C0 X → EffY P ops o X (fun v X'=>R v X' ∧ Mv X X') a
theorem MakY.put {o:Oper} {T:Value → World → Prop} {u:Value} {a:Act} {d:Option Tmp} (hs:∀ cs b,o.op ≠ .select cs b) (h:∀ t,d = some t → t ∉ o.looksAt ops):MakY P ops C0 Mv o T (a.put d u) ↔ MakY P ops C0 Mv o T a:=by
  unfold MakY
  exact ⟨fun k X hX=>(EffY.put hs h).1 (k X hX),fun k X hX=>(EffY.put hs h).2 (k X hX)⟩
theorem effUpon_some {T:Value → World → Prop}:∀ r:Result Next,effUpon P T r → ∃ v w,T v w
  | .ok (.value v) w,h=>⟨v,w,h⟩
  | .ok .skip w,h=>⟨undef,w,h⟩
  | .ok (.enter _ _) _,h=>by
    obtain ⟨e,w',fr,⟨v,_,hr⟩,_⟩:=h []
    exact ⟨v,w',hr⟩
theorem EffY.some {o:Oper} {w:World} {T:Value → World → Prop} {a:Act} (h:EffY P ops o w T a):∃ v w',T v w':=by
  rcases h with ⟨_,h⟩ | ⟨_,h⟩
  · exact effUpon_some _ h
  · exact ⟨_,_,h⟩
def Cl (Mv:World → World → Prop) (C:World → Prop):Prop:=∀ X Y,C X → Mv X Y → C Y
def wpQ (P:Program) (ops:Array Oper) (Q:Exit → Act → World → Prop) (brk fin:List Nat) (Mv:World → World → Prop) (R:Nat → Value → World → Prop) (C0:World → Prop):List (Nat × Nat) → (World → Prop) → Act → Prop
  | [],C,a=>∀ w,C w → Q .normal a w
  | (0,i) :: r,C,a=>∃ o v,ops[i]? = some o ∧ StrC P ops C0 o v a ∧ wpQ P ops Q brk fin Mv R C0 r C (a.put o.dst v)
  | (1,i) :: r,C,a=>∃ o,ops[i]? = some o ∧ ∀ X,C X → EffY P ops o X (fun v X'=>∃ C':World → Prop,C' X' ∧ (i ∈ brk ∨ (i ∈ fin ∧ ∀ Y,C' Y → C0 Y) ∨ ((∀ Y,C' Y → C Y) ∧ Mv X X' ∧ Cl Mv C')) ∧ wpQ P ops Q brk fin Mv R C0 r C' (a.put o.dst v)) a
  | (2,i) :: r,C,a=>∃ o,ops[i]? = some o ∧ MakY P ops C0 Mv o (R i) a ∧ ∀ v,(∃ X,C X ∧ R i v X) → wpQ P ops Q brk fin Mv R C0 r (fun X=>C X ∧ R i v X) (a.put o.dst v)
  | (_ + 3,i) :: r,C,a=>∃ o v,ops[i]? = some o ∧ StrC P ops C o v a ∧ wpQ P ops Q brk fin Mv R C0 r C (a.put o.dst v)
theorem Cl.and {C D:World → Prop} (h:Cl Mv C) (k:Cl Mv D):Cl Mv fun X=>C X ∧ D X:=fun X Y hX m=>⟨h X Y hX.1 m,k X Y hX.2 m⟩
theorem wpQ_mono (hR:∀ i v,Cl Mv (R i v)):∀ (l:List (Nat × Nat)) (C D:World → Prop) (a:Act),(∀ X,D X → C X) → Cl Mv D → wpQ P ops Q brk fin Mv R C0 l C a → wpQ P ops Q brk fin Mv R C0 l D a
  | [],C,D,a,hs,_,h=>fun w hw=>h w (hs w hw)
  | (0,i) :: r,C,D,a,hs,hD,⟨o,v,h1,h2,h3⟩=>⟨o,v,h1,h2,wpQ_mono hR r C D _ hs hD h3⟩
  | (1,i) :: r,C,D,a,hs,hD,⟨o,h1,h2⟩=>⟨o,h1,fun X hX=>EffY.mono (fun v X' ⟨C',c1,c2,c4⟩=>by
    rcases c2 with c2 | c2 | ⟨s1,m1,k1⟩
    · exact ⟨C',c1,.inl c2,c4⟩
    · exact ⟨C',c1,.inr (.inl c2),c4⟩
    · exact ⟨fun Y=>C' Y ∧ D Y,⟨c1,hD X X' hX m1⟩,.inr (.inr ⟨fun Y hY=>hY.2,m1,k1.and hD⟩),wpQ_mono hR r C' _ _ (fun Y hY=>hY.1) (k1.and hD) c4⟩) (h2 X (hs X hX))⟩
  | (2,i) :: r,C,D,a,hs,hD,⟨o,h1,h3,h4⟩=>⟨o,h1,h3,fun v ⟨X,hX⟩=>wpQ_mono hR r _ _ _ (fun Y hY=>⟨hs Y hY.1,hY.2⟩) (hD.and (hR i v)) (h4 v ⟨X,hs X hX.1,hX.2⟩)⟩
  | (_ + 3,i) :: r,C,D,a,hs,hD,⟨o,v,h1,h2,h3⟩=>⟨o,v,h1,h2.mono hs,wpQ_mono hR r C D _ hs hD h3⟩
theorem wpQ_float {C:World → Prop} (hsel:∀ (j:Nat) (o:Oper) cs b,ops[j]? = some o → o.op ≠ .select cs b) {i:Nat} {o:Oper} (hi:ops[i]? = some o) (s2:List (Nat × Nat)):∀ (s1:List (Nat × Nat)) (a:Act),(∀ p ∈ s1,(p.1 = 0 ∨ p.1 ≥ 3) ∧ ∀ ok,ops[p.2]? = some ok → ok.apart ops o = true) →
    wpQ P ops Q brk fin Mv R C0 (s1 ++ (0,i) :: s2) C a → ∃ v,StrC P ops C0 o v a ∧ wpQ P ops Q brk fin Mv R C0 (s1 ++ s2) C (a.put o.dst v)
  | [],a,_,⟨o',v,h1,h2,h3⟩=>by
    rw [hi] at h1
    injection h1 with h1
    subst h1
    exact ⟨v,h2,h3⟩
  | (1,k) :: s1,a,hap,h=>by have:=(hap (1,k) List.mem_cons_self).1; simp at this
  | (2,k) :: s1,a,hap,h=>by have:=(hap (2,k) List.mem_cons_self).1; simp at this
  | (0,k) :: s1,a,hap,⟨ok,vk,h1,h2,h3⟩=>by
    obtain ⟨p1,p2,p3⟩:=Oper.apart_spec ((hap (0,k) List.mem_cons_self).2 ok h1)
    obtain ⟨v,g1,g2⟩:=wpQ_float hsel hi s2 s1 _ (fun k' hk'=>hap k' (List.mem_cons_of_mem _ hk')) h3
    refine ⟨v,(StrC.put (fun cs b=>hsel i o cs b hi) p1).1 g1,ok,vk,h1,(StrC.put (fun cs b=>hsel k ok cs b h1) p3).2 h2,?_⟩
    rw [← Act.put_comm a vk v p2]
    exact g2
  | (n + 3,k) :: s1,a,hap,⟨ok,vk,h1,h2,h3⟩=>by
    obtain ⟨p1,p2,p3⟩:=Oper.apart_spec ((hap (n + 3,k) List.mem_cons_self).2 ok h1)
    obtain ⟨v,g1,g2⟩:=wpQ_float hsel hi s2 s1 _ (fun k' hk'=>hap k' (List.mem_cons_of_mem _ hk')) h3
    refine ⟨v,(StrC.put (fun cs b=>hsel i o cs b hi) p1).1 g1,ok,vk,h1,(StrC.put (fun cs b=>hsel k ok cs b h1) p3).2 h2,?_⟩
    rw [← Act.put_comm a vk v p2]
    exact g2
theorem wpQ_float3 {m:Nat} {C:World → Prop} (hsel:∀ (j:Nat) (o:Oper) cs b,ops[j]? = some o → o.op ≠ .select cs b) {i:Nat} {o:Oper} (hi:ops[i]? = some o) (s2:List (Nat × Nat)):∀ (s1:List (Nat × Nat)) (a:Act),(∀ p ∈ s1,(p.1 = 0 ∨ p.1 ≥ 3) ∧ ∀ ok,ops[p.2]? = some ok → ok.apart ops o = true) →
    wpQ P ops Q brk fin Mv R C0 (s1 ++ (m + 3,i) :: s2) C a → ∃ v,StrC P ops C o v a ∧ wpQ P ops Q brk fin Mv R C0 (s1 ++ s2) C (a.put o.dst v)
  | [],a,_,⟨o',v,h1,h2,h3⟩=>by
    rw [hi] at h1
    injection h1 with h1
    subst h1
    exact ⟨v,h2,h3⟩
  | (1,k) :: s1,a,hap,h=>by have:=(hap (1,k) List.mem_cons_self).1; simp at this
  | (2,k) :: s1,a,hap,h=>by have:=(hap (2,k) List.mem_cons_self).1; simp at this
  | (0,k) :: s1,a,hap,⟨ok,vk,h1,h2,h3⟩=>by
    obtain ⟨p1,p2,p3⟩:=Oper.apart_spec ((hap (0,k) List.mem_cons_self).2 ok h1)
    obtain ⟨v,g1,g2⟩:=wpQ_float3 hsel hi s2 s1 _ (fun k' hk'=>hap k' (List.mem_cons_of_mem _ hk')) h3
    refine ⟨v,(StrC.put (fun cs b=>hsel i o cs b hi) p1).1 g1,ok,vk,h1,(StrC.put (fun cs b=>hsel k ok cs b h1) p3).2 h2,?_⟩
    rw [← Act.put_comm a vk v p2]
    exact g2
  | (n + 3,k) :: s1,a,hap,⟨ok,vk,h1,h2,h3⟩=>by
    obtain ⟨p1,p2,p3⟩:=Oper.apart_spec ((hap (n + 3,k) List.mem_cons_self).2 ok h1)
    obtain ⟨v,g1,g2⟩:=wpQ_float3 hsel hi s2 s1 _ (fun k' hk'=>hap k' (List.mem_cons_of_mem _ hk')) h3
    refine ⟨v,(StrC.put (fun cs b=>hsel i o cs b hi) p1).1 g1,ok,vk,h1,(StrC.put (fun cs b=>hsel k ok cs b h1) p3).2 h2,?_⟩
    rw [← Act.put_comm a vk v p2]
    exact g2
theorem wpQ_stand {C:World → Prop} (hsel:∀ (j:Nat) (o:Oper) cs b,ops[j]? = some o → o.op ≠ .select cs b) {i:Nat} {o:Oper} (hi:ops[i]? = some o) (s2:List (Nat × Nat)):∀ (s1:List (Nat × Nat)) (a:Act),(∀ p ∈ s1,p.1 = 0 ∧ ∀ ok,ops[p.2]? = some ok → ok.apart ops o = true) →
    wpQ P ops Q brk fin Mv R C0 (s1 ++ (1,i) :: s2) C a → ∀ X,C X → EffY P ops o X (fun v X'=>∃ C':World → Prop,C' X' ∧ (i ∈ brk ∨ (i ∈ fin ∧ ∀ Y,C' Y → C0 Y) ∨ ((∀ Y,C' Y → C Y) ∧ Mv X X' ∧ Cl Mv C')) ∧ wpQ P ops Q brk fin Mv R C0 (s1 ++ s2) C' (a.put o.dst v)) a
  | [],a,_,⟨o',h1,h2⟩=>by
    rw [hi] at h1
    injection h1 with h1
    subst h1
    exact h2
  | (1,k) :: s1,a,hap,h=>by have:=(hap (1,k) List.mem_cons_self).1; cases this
  | (n + 2,k) :: s1,a,hap,h=>by have:=(hap (n + 2,k) List.mem_cons_self).1; cases this
  | (0,k) :: s1,a,hap,⟨ok,vk,h1,h2,h3⟩=>fun X hX=>by
    obtain ⟨p1,p2,p3⟩:=Oper.apart_spec ((hap (0,k) List.mem_cons_self).2 ok h1)
    have g:=wpQ_stand hsel hi s2 s1 _ (fun k' hk'=>hap k' (List.mem_cons_of_mem _ hk')) h3 X hX
    refine EffY.mono (fun v w' ⟨C',c1,c2,c3⟩=>⟨C',c1,c2,ok,vk,h1,((StrC.put (fun cs b=>hsel k ok cs b h1) p3).2 h2),?_⟩) ((EffY.put (fun cs b=>hsel i o cs b hi) p1).1 g)
    rw [← Act.put_comm a vk v p2]
    exact c3
theorem wpQ_make (hR:∀ i v,Cl Mv (R i v)) (hsel:∀ (j:Nat) (o:Oper) cs b,ops[j]? = some o → o.op ≠ .select cs b) {i:Nat} {o:Oper} (hi:ops[i]? = some o) (s2:List (Nat × Nat)):∀ (s1:List (Nat × Nat)) (a:Act) (C:World → Prop),Cl Mv C → (∀ X,C X → C0 X) → (∃ X,C X) → (∀ p ∈ s1,(p.1 = 1 → p.2 ∉ brk ∧ p.2 ∉ fin) ∧ ∀ ok,ops[p.2]? = some ok → ok.apart ops o = true) →
    wpQ P ops Q brk fin Mv R C0 (s1 ++ (2,i) :: s2) C a → MakY P ops C0 Mv o (R i) a ∧ ∀ v,(∃ X,C X ∧ R i v X) → wpQ P ops Q brk fin Mv R C0 (s1 ++ s2) (fun X=>C X ∧ R i v X) (a.put o.dst v)
  | [],a,C,_,_,_,_,⟨o',h1,h3,h4⟩=>by
    rw [hi] at h1
    injection h1 with h1
    subst h1
    exact ⟨h3,h4⟩
  | (0,k) :: s1,a,C,hC,h0,hx,hap,⟨ok,vk,h1,h2,h3⟩=>by
    obtain ⟨p1,p2,p3⟩:=Oper.apart_spec ((hap (0,k) List.mem_cons_self).2 ok h1)
    obtain ⟨g1,g2⟩:=wpQ_make hR hsel hi s2 s1 _ C hC h0 hx (fun k' hk'=>hap k' (List.mem_cons_of_mem _ hk')) h3
    refine ⟨(MakY.put (fun cs b=>hsel i o cs b hi) p1).1 g1,fun v hv=>⟨ok,vk,h1,(StrC.put (fun cs b=>hsel k ok cs b h1) p3).2 h2,?_⟩⟩
    rw [← Act.put_comm a vk v p2]
    exact g2 v hv
  | (1,k) :: s1,a,C,hC,h0,⟨X0,hX0⟩,hap,⟨ok,h1,h2⟩=>by
    have hnb:=(hap (1,k) List.mem_cons_self).1 rfl
    obtain ⟨p1,p2,p3⟩:=Oper.apart_spec ((hap (1,k) List.mem_cons_self).2 ok h1)
    have ih:=fun (vk:Value) (C':World → Prop)=>wpQ_make hR hsel hi s2 s1 (a.put ok.dst vk) C'
    obtain ⟨vk,X1,C1,c1,c2,c4⟩:=(h2 X0 hX0).some
    obtain ⟨s1',m1,k1⟩:=(c2.resolve_left hnb.1).resolve_left fun e=>hnb.2 e.1
    have g1:=(ih vk C1 k1 (fun X hX=>h0 X (s1' X hX)) ⟨_,c1⟩ (fun k' hk'=>hap k' (List.mem_cons_of_mem _ hk')) c4)
    refine ⟨(MakY.put (fun cs b=>hsel i o cs b hi) p1).1 g1.1,fun v hv=>⟨ok,h1,fun X hX=>(EffY.put (fun cs b=>hsel k ok cs b h1) p3).2 (EffY.mono ?_ (h2 X hX.1))⟩⟩
    rintro vk X' ⟨C',c1,c2,c4⟩
    obtain ⟨s1',m1,k1⟩:=(c2.resolve_left hnb.1).resolve_left fun e=>hnb.2 e.1
    have g:=(ih vk C' k1 (fun X hX=>h0 X (s1' X hX)) ⟨_,c1⟩ (fun k' hk'=>hap k' (List.mem_cons_of_mem _ hk')) c4).2 v ⟨X',c1,hR i v _ _ hX.2 m1⟩
    refine ⟨fun Y=>C' Y ∧ R i v Y,⟨c1,hR i v _ _ hX.2 m1⟩,.inr (.inr ⟨fun Y hY=>⟨s1' Y hY.1,hY.2⟩,m1,k1.and (hR i v)⟩),?_⟩
    rw [← Act.put_comm a vk v p2]
    exact g
  | (2,k) :: s1,a,C,hC,h0,⟨X0,hX0⟩,hap,⟨ok,h1,h2,h3⟩=>by
    obtain ⟨p1,p2,p3⟩:=Oper.apart_spec ((hap (2,k) List.mem_cons_self).2 ok h1)
    have ih:=fun (vk:Value)=>wpQ_make hR hsel hi s2 s1 (a.put ok.dst vk) (fun X=>C X ∧ R k vk X) (hC.and (hR k vk)) (fun X hX=>h0 X hX.1)
    obtain ⟨vk,X1,r1,m1⟩:=(h2 X0 (h0 X0 hX0)).some
    have n1:∃ X,C X ∧ R k vk X:=⟨X1,hC _ _ hX0 m1,r1⟩
    have g1:=ih vk n1 (fun k' hk'=>hap k' (List.mem_cons_of_mem _ hk')) (h3 vk n1)
    refine ⟨(MakY.put (fun cs b=>hsel i o cs b hi) p1).1 g1.1,fun v hv=>⟨ok,h1,(MakY.put (fun cs b=>hsel k ok cs b h1) p3).2 h2,fun vk ⟨X,hX⟩=>?_⟩⟩
    have n2:∃ X,C X ∧ R k vk X:=⟨X,hX.1.1,hX.2⟩
    have g:=(ih vk n2 (fun k' hk'=>hap k' (List.mem_cons_of_mem _ hk')) (h3 vk n2)).2 v ⟨X,⟨hX.1.1,hX.2⟩,hX.1.2⟩
    rw [← Act.put_comm a vk v p2]
    exact wpQ_mono hR _ _ _ _ (fun Y hY=>⟨⟨hY.1.1,hY.2⟩,hY.1.2⟩) ((hC.and (hR i v)).and (hR k vk)) g
  | (n + 3,k) :: s1,a,C,hC,h0,hx,hap,⟨ok,vk,h1,h2,h3⟩=>by
    obtain ⟨p1,p2,p3⟩:=Oper.apart_spec ((hap (n + 3,k) List.mem_cons_self).2 ok h1)
    obtain ⟨g1,g2⟩:=wpQ_make hR hsel hi s2 s1 _ C hC h0 hx (fun k' hk'=>hap k' (List.mem_cons_of_mem _ hk')) h3
    refine ⟨(MakY.put (fun cs b=>hsel i o cs b hi) p1).1 g1,fun v hv=>⟨ok,vk,h1,((StrC.put (fun cs b=>hsel k ok cs b h1) p3).2 h2).mono fun X hX=>hX.1,?_⟩⟩
    rw [← Act.put_comm a vk v p2]
    exact g2 v hv
def lfm (L:Array Bool) (l:List (Nat × Nat)):List (Nat × Nat):=l.filter fun p => !L.getD p.2 true
theorem lfm_split {T:Nat × Nat → Nat × Nat → Prop} {L:Array Bool} {l:List (Nat × Nat)} {p:Nat × Nat} (hn:(l.map (·.2)).Nodup) (hp:l.Pairwise T) (hi:p ∈ l) (hL:L.getD p.2 true = false):
    ∃ r1 r2,lfm L l = r1 ++ p :: r2 ∧ lfm (L.setIfInBounds p.2 true) l = r1 ++ r2 ∧ (∀ k ∈ r1,T k p ∧ L.getD k.2 true = false) ∧ ∀ k ∈ r2,T p k:=by
  obtain ⟨s,t,rfl⟩:=List.append_of_mem hi
  rw [List.map_append,List.map_cons] at hn
  obtain ⟨_,n2,n3⟩:=List.nodup_append.1 hn
  have n4:=(List.nodup_cons.1 n2).1
  obtain ⟨_,q2,q3⟩:=List.pairwise_append.1 hp
  have hne:∀ k,k ≠ p.2 → (L.setIfInBounds p.2 true).getD k true = L.getD k true:=fun k hk=>getD_set_ne true (Ne.symm hk)
  have hself:(L.setIfInBounds p.2 true).getD p.2 true = true:=by
    unfold Array.getD
    split
    · simp
    · rfl
  refine ⟨s.filter fun k => !L.getD k.2 true,t.filter fun k => !L.getD k.2 true,?_,?_,?_,?_⟩
  · unfold lfm
    rw [List.filter_append,List.filter_cons,if_pos (by simp [hL])]
  · unfold lfm
    rw [List.filter_append,List.filter_cons,if_neg (by simp [hself])]
    congr 1
    · exact List.filter_congr fun k hk=>by rw [hne k.2 (n3 k.2 (List.mem_map_of_mem hk) p.2 List.mem_cons_self)]
    · exact List.filter_congr fun k hk=>by rw [hne k.2 (fun e=>n4 (e ▸ List.mem_map_of_mem hk))]
  · intro k hk
    obtain ⟨hk1,hk2⟩:=List.mem_filter.1 hk
    exact ⟨q3 k hk1 p List.mem_cons_self,by simpa using hk2⟩
  · intro k hk
    exact (List.pairwise_cons.1 q2).1 k (List.mem_filter.1 hk).1
def ladMB (ops:Array Oper) (brk fin:List Nat) (p q:Nat × Nat):Bool:=
  if q.1 = 2 then (if p.1 = 1 && (brk.contains p.2 || fin.contains p.2) then false else edgeB ops p.2 q.2)
  else if q.1 = 1 then (if p.1 = 0 then edgeB ops p.2 q.2 else reachB ops q.2 p.2) && (!brk.contains q.2 || reachB ops q.2 p.2)
  else if p.1 = 0 || p.1 ≥ 3 then edgeB ops p.2 q.2 else reachB ops q.2 p.2 && (q.1 ≥ 3 || !brk.contains p.2)
structure LadMAt (P:Program) (ops:Array Oper) (Q:Exit → Act → World → Prop) (brk fin:List Nat) (Mv:World → World → Prop) (R:Nat → Value → World → Prop) (C0:World → Prop) (l:List (Nat × Nat)) (L:Array Bool) (A:Act) (w:World):Prop where
  size:L.size = ops.size
  closed:Closed ops L
  way:∃ C:World → Prop,C w ∧ ((∀ X,C X → C0 X) ∨ ∀ p ∈ lfm L l,p.1 ≠ 0 ∧ p.1 ≠ 2) ∧ (Cl Mv C ∨ ∀ p ∈ lfm L l,p.1 ≠ 2) ∧ wpQ P ops Q brk fin Mv R C0 (lfm L l) C A
theorem wp_region_ladm {id:Nat} {a:Act} {w:World} (Mv:World → World → Prop) (C0:World → Prop) (R:Nat → Value → World → Prop) (brk fin:List Nat) (l:List (Nat × Nat)) (hmo:P.follows .mixedOrders = true) (hB:textB ops = true) (hnd:(l.map (·.2)).Nodup) (hcov:∀ i ∈ List.range ops.size,i ∈ l.map (·.2)) (hin:∀ p ∈ l,p.2 < ops.size)
    (hp:l.Pairwise (fun p q=>ladMB ops brk fin p q = true)) (hR:∀ i v,Cl Mv (R i v)) (hC:Cl Mv C0) (h0:C0 w.drew) (h:wpQ P ops Q brk fin Mv R C0 l C0 a):(Code.region id ops true).wp P Q a w:=by
  obtain ⟨hsel,htx⟩:=textB_spec hB
  refine wp_region_inv (I:=fun L A X=>LadMAt P ops Q brk fin Mv R C0 l L A X) hmo ?h0 ?hs ?he
  case h0=>
    have hf0:∀ k d,k < ops.size → (Array.replicate ops.size false).getD k d = false:=fun k d hk=>by unfold Array.getD; simp [hk]
    refine ⟨by simp,?_,C0,h0,.inl fun _ h=>h,.inl hC,?_⟩
    · intro i o ho hi
      rw [hf0 i _ (Array.getElem?_eq_some_iff.1 ho).1] at hi
      cases hi
    · rw [show lfm (Array.replicate ops.size false) l = l from List.filter_eq_self.2 fun p hpm=>by simp [hf0 p.2 true (hin p hpm)]]
      exact h
  case hs=>
    intro L A X i o hI ho hl hdeps
    have hil:i < ops.size:=(Array.getElem?_eq_some_iff.1 ho).1
    have hsize:(L.setIfInBounds i true).size = ops.size:=by simp [hI.size]
    have hclosed:=hI.closed.step ho hdeps
    have hap:∀ k,edgeB ops k i = true → L.getD k true = false → ∀ ok,ops[k]? = some ok → ok.apart ops o = true:=by
      intro k hed hk ok hok
      rcases edgeB_spec ho hok hed with ⟨e,he,hbe,rfl⟩ | h2
      · have h3:=hdeps e he hbe
        rw [getD_flip hk] at h3
        cases h3
      · exact h2
    have hwt:∀ k,reachB ops i k = true → L.getD k true = false → False:=fun k hk hk2=>by
      have:=reachB_listed hI.closed i k o ho hdeps hk
      rw [getD_flip hk2] at this
      cases this
    obtain ⟨p,hpl,rfl⟩:=List.mem_map.1 (hcov i (by simpa using hil))
    obtain ⟨r1,r2,s1,s2,s3,s4⟩:=lfm_split hnd hp hpl hl
    obtain ⟨C1,hC1,hc0,hcl,hw⟩:=hI.way
    have sub:∀ q,q ∈ r1 ++ r2 → q ∈ lfm L l:=fun q hq=>by
      rw [s1]
      rcases List.mem_append.1 hq with hq | hq
      · exact List.mem_append_left _ hq
      · exact List.mem_append_right _ (List.mem_cons_of_mem _ hq)
    have hcl2:Cl Mv C1 ∨ ∀ q ∈ r1 ++ r2,q.1 ≠ 2:=hcl.imp (fun h=>h) fun h9 q hq=>h9 q (sub q hq)
    have hc02:(∀ X,C1 X → C0 X) ∨ ∀ q ∈ r1 ++ r2,q.1 ≠ 0 ∧ q.1 ≠ 2:=hc0.imp (fun h=>h) fun h9 q hq=>h9 q (sub q hq)
    rw [s1] at hw hcl hc0
    obtain ⟨b,i⟩:=p
    have hr0:(b = 0 ∨ b ≥ 3) → ∀ q ∈ r1,(q.1 = 0 ∨ q.1 ≥ 3) ∧ ∀ ok,ops[q.2]? = some ok → ok.apart ops o = true:=by
      intro hb q hq
      obtain ⟨t1,t2⟩:=s3 q hq
      unfold ladMB at t1
      rw [if_neg (by simp only; omega),if_neg (by simp only; omega)] at t1
      by_cases h9:q.1 = 0 ∨ q.1 ≥ 3
      · rw [if_pos (by simpa using h9)] at t1
        exact ⟨h9,hap q.2 t1 t2⟩
      · rw [if_neg (by simpa using h9),Bool.and_eq_true] at t1
        exact (hwt _ t1.1 t2).elim
    have hr1:b = 1 → ∀ q ∈ r1,q.1 = 0 ∧ ∀ ok,ops[q.2]? = some ok → ok.apart ops o = true:=by
      intro hb q hq
      obtain ⟨t1,t2⟩:=s3 q hq
      unfold ladMB at t1
      rw [if_neg (by simp only; omega),if_pos hb,Bool.and_eq_true] at t1
      by_cases h9:q.1 = 0
      · rw [if_pos h9] at t1
        exact ⟨h9,hap q.2 t1.1 t2⟩
      · rw [if_neg h9] at t1
        exact (hwt _ t1.1 t2).elim
    have hr2:b = 1 → i ∈ brk → r1 = []:=by
      intro hb hbk
      cases hr:r1 with
      | nil=>rfl
      | cons q r=>
        exfalso
        obtain ⟨t1,t2⟩:=s3 q (by rw [hr]; exact List.mem_cons_self)
        unfold ladMB at t1
        rw [if_neg (by simp only; omega),if_pos hb,Bool.and_eq_true,Bool.or_eq_true] at t1
        rcases t1.2 with h9 | h9
        · simp [hbk] at h9
        · exact hwt _ h9 t2
    match b,hw,s4,hcl,hc0,hr0,hr1,hr2 with
    | 0,hw,_,_,hc0,hr0,_,_=>
      have hc0:=hc0.resolve_right fun h9=>(h9 (0,i) (List.mem_append_right _ List.mem_cons_self)).1 rfl
      obtain ⟨v,g1,g2⟩:=wpQ_float hsel ho r2 r1 A (hr0 (.inl rfl)) hw
      exact StrC.wpOp ho (hc0 _ hC1) g1 ⟨hsize,hclosed,C1,hC1,.inl hc0,by rw [s2]; exact hcl2,by rw [s2]; exact g2⟩
    | n + 3,hw,_,_,_,hr0,_,_=>
      obtain ⟨v,g1,g2⟩:=wpQ_float3 hsel ho r2 r1 A (hr0 (.inr (by omega))) hw
      exact StrC.wpOp ho hC1 g1 ⟨hsize,hclosed,C1,hC1,by rw [s2]; exact hc02,by rw [s2]; exact hcl2,by rw [s2]; exact g2⟩
    | 1,hw,s4,_,_,_,hr1,hr2=>
      refine EffY.wpOp ho (wpQ_stand hsel ho r2 r1 A (hr1 rfl) hw X hC1) fun v w' ⟨C',c1,c2,c3⟩=>⟨hsize,hclosed,C',c1,?_,?_,by rw [s2]; exact c3⟩
      · rw [s2]
        rcases c2 with c2 | c2 | ⟨c2,_,c5⟩
        · refine .inr fun q hq=>?_
          rw [hr2 rfl c2,List.nil_append] at hq
          have t1:=s4 q hq
          unfold ladMB at t1
          by_cases h9:q.1 = 2
          · rw [if_pos h9,if_pos (by simp [c2])] at t1
            cases t1
          · refine ⟨fun e0=>?_,h9⟩
            rw [if_neg h9,if_neg (by omega),if_neg (by simp),Bool.and_eq_true] at t1
            simp [e0,c2] at t1
        · exact .inl c2.2
        · exact hc02.imp (fun h9 Y hY=>h9 Y (c2 Y hY)) fun h=>h
      · rw [s2]
        rcases c2 with c2 | c2 | ⟨c2,_,c5⟩
        · refine .inr fun q hq=>?_
          rw [hr2 rfl c2,List.nil_append] at hq
          have t1:=s4 q hq
          unfold ladMB at t1
          intro h9
          rw [if_pos h9,if_pos (by simp [c2])] at t1
          cases t1
        · refine .inr fun q hq=>?_
          rcases List.mem_append.1 hq with hq | hq
          · have:=(hr1 rfl q hq).1; omega
          · have t1:=s4 q hq
            unfold ladMB at t1
            intro h9
            rw [if_pos h9,if_pos (by simp [c2.1])] at t1
            cases t1
        · exact .inl c5
    | 2,hw,_,hcl,hc0,_,_,_=>
      have hcl:=hcl.resolve_right fun h9=>h9 (2,i) (List.mem_append_right _ List.mem_cons_self) rfl
      have hc0:=hc0.resolve_right fun h9=>(h9 (2,i) (List.mem_append_right _ List.mem_cons_self)).2 rfl
      obtain ⟨g1,g2⟩:=wpQ_make hR hsel ho r2 r1 A C1 hcl hc0 ⟨X,hC1⟩ (fun q hq=>by
        obtain ⟨t1,t2⟩:=s3 q hq
        unfold ladMB at t1
        rw [if_pos rfl] at t1
        by_cases h9:(decide (q.1 = 1) && (brk.contains q.2 || fin.contains q.2)) = true
        · rw [if_pos h9] at t1
          cases t1
        · rw [if_neg h9] at t1
          exact ⟨fun e=>⟨fun hb=>h9 (by simp [e,hb]),fun hb=>h9 (by simp [e,hb])⟩,hap q.2 t1 t2⟩) hw
      refine EffY.wpOp ho (g1 X (hc0 X hC1)) fun u Y ⟨e2,e3⟩=>?_
      have hc2:=hcl _ _ hC1 e3
      exact ⟨hsize,hclosed,_,⟨hc2,e2⟩,.inl fun Y hY=>hc0 Y hY.1,.inl (hcl.and (hR i u)),by rw [s2]; exact g2 u ⟨_,hc2,e2⟩⟩
  case he=>
    intro L A X hI hr
    have hall:∀ n k,k < n → k < ops.size → L.getD k false = true:=by
      intro n
      induction n with
      | zero=>intro k hk; omega
      | succ n ih=>
        intro k hk hkn
        cases hv:L.getD k false with
        | true=>rfl
        | false=>
          exfalso
          have ho:ops[k]? = some ops[k]:=Array.getElem?_eq_getElem hkn
          have hmem:k ∈ Region.ready .any ops L:=mem_ready.2 ⟨by rw [← getD_flip' (by rw [hI.size]; omega)]; exact hv,ops[k],ho,fun e he hbe=>ih e.on (by have:=htx k _ ho e he hbe; omega) (by have:=htx k _ ho e he hbe; omega)⟩
          rw [hr] at hmem
          cases hmem
    obtain ⟨C1,hC1,_,_,hw⟩:=hI.way
    rw [show lfm L l = [] from List.filter_eq_nil_iff.2 fun p hpm=>by
      have:=hall (p.2 + 1) p.2 (by omega) (hin p hpm)
      rw [getD_flip' (by rw [hI.size]; exact hin p hpm)] at this
      simp [this]] at hw
    exact hw X hC1
theorem wpQ_nil {C:World → Prop} {a:Act} (h:∀ w,C w → Q .normal a w):wpQ P ops Q brk fin Mv R C0 [] C a:=h
theorem wpQ_f {C:World → Prop} {a:Act} {i:Nat} {r:List (Nat × Nat)} (o:Oper) (v:Value) (ho:ops[i]? = some o) (hw:Region.wanted o (yielded ops a.tmps) = true) (hr:∀ X,C0 X → (execOp a.eval o).run P X = .ok (.value v) X) (h:wpQ P ops Q brk fin Mv R C0 r C (a.put o.dst v)):wpQ P ops Q brk fin Mv R C0 ((0,i) :: r) C a:=⟨o,v,ho,.inl ⟨hw,hr⟩,h⟩
theorem wpQ_m {C:World → Prop} {a:Act} {i:Nat} {r:List (Nat × Nat)} (o:Oper) (ho:ops[i]? = some o) (hw:Region.wanted o (yielded ops a.tmps) = true) (hr:∀ X,C0 X → ∃ v X',(execOp a.eval o).run P X = .ok (.value v) X' ∧ R i v X' ∧ Mv X X') (h:∀ v,(∃ X,C X ∧ R i v X) → wpQ P ops Q brk fin Mv R C0 r (fun X=>C X ∧ R i v X) (a.put o.dst v)):wpQ P ops Q brk fin Mv R C0 ((2,i) :: r) C a:=⟨o,ho,fun X hX=>.inl ⟨hw,by obtain ⟨v,X',h1,h2⟩:=hr X hX; rw [h1]; exact h2⟩,h⟩
theorem wpQ_call {C:World → Prop} {a:Act} {i:Nat} {r:List (Nat × Nat)} (o:Oper) {f:FuncId} {args:Array Value} (ho:ops[i]? = some o) (hw:Region.wanted o (yielded ops a.tmps) = true) (hr:∀ X,C X → (execOp a.eval o).run P X = .ok (.enter f args) X)
    (hc:∀ X,C X → Calls P f args X fun e X'=>∃ v,e = .returned v ∧ ∃ C':World → Prop,C' X' ∧ (i ∈ brk ∨ (i ∈ fin ∧ ∀ Y,C' Y → C0 Y) ∨ ((∀ Y,C' Y → C Y) ∧ Mv X X' ∧ Cl Mv C')) ∧ wpQ P ops Q brk fin Mv R C0 r C' (a.put o.dst v)):wpQ P ops Q brk fin Mv R C0 ((1,i) :: r) C a:=⟨o,ho,fun X hX=>.inl ⟨hw,by rw [hr X hX]; exact hc X hX⟩⟩
theorem wpQ_to {C:World → Prop} {a:Act} {i:Nat} {r:List (Nat × Nat)} (o:Oper) (ho:ops[i]? = some o) (hw:Region.wanted o (yielded ops a.tmps) = true)
    (h:∀ X,C X → ∃ v X',(execOp a.eval o).run P X = .ok (.value v) X' ∧ ∃ C':World → Prop,C' X' ∧ (i ∈ brk ∨ (i ∈ fin ∧ ∀ Y,C' Y → C0 Y) ∨ ((∀ Y,C' Y → C Y) ∧ Mv X X' ∧ Cl Mv C')) ∧ wpQ P ops Q brk fin Mv R C0 r C' (a.put o.dst v)):wpQ P ops Q brk fin Mv R C0 ((1,i) :: r) C a:=⟨o,ho,fun X hX=>.inl ⟨hw,by obtain ⟨v,X',h1,h2⟩:=h X hX; rw [h1]; exact h2⟩⟩
theorem wpQ_st {C:World → Prop} {a:Act} {i:Nat} {r:List (Nat × Nat)} (o:Oper) (ho:ops[i]? = some o) (hw:Region.wanted o (yielded ops a.tmps) = true)
    (h:∀ X,C X → ∃ X',(execOp a.eval o).run P X = .ok .skip X' ∧ ∃ C':World → Prop,C' X' ∧ (i ∈ brk ∨ (i ∈ fin ∧ ∀ Y,C' Y → C0 Y) ∨ ((∀ Y,C' Y → C Y) ∧ Mv X X' ∧ Cl Mv C')) ∧ wpQ P ops Q brk fin Mv R C0 r C' (a.put o.dst undef)):wpQ P ops Q brk fin Mv R C0 ((1,i) :: r) C a:=⟨o,ho,fun X hX=>.inl ⟨hw,by obtain ⟨X',h1,h2⟩:=h X hX; rw [h1]; exact h2⟩⟩
end
end Go.Proofs.YtfbmeclpcgdmhabDoor
