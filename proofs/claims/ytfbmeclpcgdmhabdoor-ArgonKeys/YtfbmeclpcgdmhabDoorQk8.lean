/-
  A law for regions that draw their order and end with stores, in which operations that read what no store of the region writes may stand out till late: v[a], v[b] = f(..). One walk serves every order. The words of a piece, the lowest byte of each first.
-/
import Derived.Test.YtfbmeclpcgdmhabDoorQk7
import Derived.Test.YtfbmeclpcgdmhabDoorQk1
import Derived.Test.YtfbmeclpcgdmhabDoorQk6
namespace Go.Proofs.YtfbmeclpcgdmhabDoor
open Go.RowKit
section
variable {P:Program} {ops:Array Oper} {W:World} {Q:Exit → Act → World → Prop} {C:World → Prop}
def StrC (P:Program) (ops:Array Oper) (C:World → Prop) (o:Oper) (v:Value) (a:Act):Prop:=
  (Region.wanted o (yielded ops a.tmps) = true ∧ ∀ w,C w → (execOp a.eval o).run P w = .ok (.value v) w) ∨ (Region.wanted o (yielded ops a.tmps) = false ∧ v = undef)
theorem StrC.put {o:Oper} {v u:Value} {a:Act} {d:Option Tmp} (hs:∀ cs b,o.op ≠ .select cs b) (h:∀ t,d = some t → t ∉ o.looksAt ops):StrC P ops C o v (a.put d u) ↔ StrC P ops C o v a:=by
  unfold StrC
  rw [execOp_put (ops:=ops) o hs a d u h,wanted_put o a d u h]
theorem StrC.wpOp {i:Nat} {o:Oper} {v:Value} {a:Act} {w:World} {K:Act → World → Prop} (hi:ops[i]? = some o) (hC:C w) (hy:StrC P ops C o v a) (hK:K (a.put o.dst v) w):wpOp P ops Q i K a w:=by
  unfold Go.wpOp
  rw [hi]
  rcases hy with ⟨h1,h2⟩ | ⟨h1,rfl⟩
  · simp only [h1,if_true]
    refine .inl ?_
    unfold Oper.wp
    rw [h2 w hC]
    exact hK
  · simp only [h1,Bool.false_eq_true,if_false]
    exact hK
def PlainY (P:Program) (ops:Array Oper) (o:Oper) (v:Value) (w w':World) (a:Act):Prop:=
  Region.wanted o (yielded ops a.tmps) = true ∧ ((execOp a.eval o).run P w = .ok (.value v) w' ∨ ((execOp a.eval o).run P w = .ok .skip w' ∧ v = undef))
theorem PlainY.put {o:Oper} {v u:Value} {w w':World} {a:Act} {d:Option Tmp} (hs:∀ cs b,o.op ≠ .select cs b) (h:∀ t,d = some t → t ∉ o.looksAt ops):PlainY P ops o v w w' (a.put d u) ↔ PlainY P ops o v w w' a:=by
  unfold PlainY
  rw [execOp_put (ops:=ops) o hs a d u h,wanted_put o a d u h]
theorem PlainY.wpOp {i:Nat} {o:Oper} {v:Value} {a:Act} {w w':World} {K:Act → World → Prop} (hi:ops[i]? = some o) (hy:PlainY P ops o v w w' a) (hK:K (a.put o.dst v) w'):wpOp P ops Q i K a w:=by
  unfold Go.wpOp
  rw [hi]
  obtain ⟨h1,h2⟩:=hy
  simp only [h1,if_true]
  refine .inl ?_
  unfold Oper.wp
  rcases h2 with h2 | ⟨h2,rfl⟩
  · rw [h2]; exact hK
  · rw [h2]; exact hK
def wpF (P:Program) (ops:Array Oper) (C:World → Prop) (E:Act → Prop):List Nat → Act → Prop
  | [],a=>E a
  | i :: r,a=>∃ o v,ops[i]? = some o ∧ StrC P ops C o v a ∧ wpF P ops C E r (a.put o.dst v)
theorem wpF_nil {E:Act → Prop} {a:Act} (h:E a):wpF P ops C E [] a:=h
theorem wpF_one {E:Act → Prop} {a:Act} {i:Nat} {r:List Nat} (o:Oper) (v:Value) (ho:ops[i]? = some o) (hw:Region.wanted o (yielded ops a.tmps) = true) (hr:∀ w,C w → (execOp a.eval o).run P w = .ok (.value v) w) (h:wpF P ops C E r (a.put o.dst v)):wpF P ops C E (i :: r) a:=⟨o,v,ho,.inl ⟨hw,hr⟩,h⟩
theorem wpF_mono {E E':Act → Prop} (h:∀ a,E a → E' a):∀ (l:List Nat) (a:Act),wpF P ops C E l a → wpF P ops C E' l a
  | [],_,hh=>h _ hh
  | _ :: r,_,⟨o,v,h1,h2,h3⟩=>⟨o,v,h1,h2,wpF_mono h r _ h3⟩
theorem wpF_take {E:Act → Prop} (hsel:∀ (j:Nat) (o:Oper) cs b,ops[j]? = some o → o.op ≠ .select cs b) {i:Nat} {o:Oper} (hi:ops[i]? = some o) (r2:List Nat):∀ (r1:List Nat) (a:Act),(∀ k ∈ r1,∀ ok,ops[k]? = some ok → ok.apart ops o = true) →
    wpF P ops C E (r1 ++ i :: r2) a → ∃ v,StrC P ops C o v a ∧ wpF P ops C E (r1 ++ r2) (a.put o.dst v)
  | [],a,_,⟨o',v,h1,h2,h3⟩=>by
    rw [hi] at h1
    injection h1 with h1
    subst h1
    exact ⟨v,h2,h3⟩
  | k :: r1,a,hap,⟨ok,vk,h1,h2,h3⟩=>by
    obtain ⟨p1,p2,p3⟩:=Oper.apart_spec (hap k List.mem_cons_self ok h1)
    obtain ⟨v,g1,g2⟩:=wpF_take hsel hi r2 r1 _ (fun k' hk'=>hap k' (List.mem_cons_of_mem _ hk')) h3
    refine ⟨v,(StrC.put (fun cs b=>hsel i o cs b hi) p1).1 g1,ok,vk,h1,(StrC.put (fun cs b=>hsel k ok cs b h1) p3).2 h2,?_⟩
    rw [← Act.put_comm a vk v p2]
    exact g2
theorem wpSF_take {E:Act → Prop} (hsel:∀ (j:Nat) (o:Oper) cs b,ops[j]? = some o → o.op ≠ .select cs b) {i:Nat} {o:Oper} (hi:ops[i]? = some o) (s1 s2:List Nat) (hs1:∀ k ∈ s1,∀ ok,ops[k]? = some ok → ok.apart ops o = true):∀ (r:List Nat) (a:Act),(∀ k ∈ r,∀ ok,ops[k]? = some ok → ok.apart ops o = true) →
    wpS P ops W (fun A=>wpF P ops C E (s1 ++ i :: s2) A) r a → ∃ v,StrC P ops C o v a ∧ wpS P ops W (fun A=>wpF P ops C E (s1 ++ s2) A) r (a.put o.dst v)
  | [],a,_,h=>wpF_take hsel hi s2 s1 a hs1 h
  | k :: r,a,hap,⟨ok,vk,h1,h2,h3⟩=>by
    obtain ⟨p1,p2,p3⟩:=Oper.apart_spec (hap k List.mem_cons_self ok h1)
    obtain ⟨v,g1,g2⟩:=wpSF_take hsel hi s1 s2 hs1 r _ (fun k' hk'=>hap k' (List.mem_cons_of_mem _ hk')) h3
    refine ⟨v,(StrC.put (fun cs b=>hsel i o cs b hi) p1).1 g1,ok,vk,h1,(StrongY.put (fun cs b=>hsel k ok cs b h1) p3).2 h2,?_⟩
    rw [← Act.put_comm a vk v p2]
    exact g2
def wpL (P:Program) (ops:Array Oper) (C:World → Prop) (Q:Exit → Act → World → Prop):List Nat → Act → World → Prop
  | [],a,w=>Q .normal a w
  | i :: r,a,w=>∃ o v w',ops[i]? = some o ∧ PlainY P ops o v w w' a ∧ C w' ∧ wpL P ops C Q r (a.put o.dst v) w'
theorem wpL_nil {a:Act} {w:World} (h:Q .normal a w):wpL P ops C Q [] a w:=h
theorem wpL_val {i:Nat} {r:List Nat} {a:Act} {w:World} (o:Oper) (v:Value) (ho:ops[i]? = some o) (hw:Region.wanted o (yielded ops a.tmps) = true) (hr:(execOp a.eval o).run P w = .ok (.value v) w) (hC:C w) (h:wpL P ops C Q r (a.put o.dst v) w):wpL P ops C Q (i :: r) a w:=⟨o,v,w,ho,⟨hw,.inl hr⟩,hC,h⟩
theorem wpL_skip {i:Nat} {r:List Nat} {a:Act} {w:World} (o:Oper) (w':World) (ho:ops[i]? = some o) (hw:Region.wanted o (yielded ops a.tmps) = true) (hr:(execOp a.eval o).run P w = .ok .skip w') (hC:C w') (h:wpL P ops C Q r (a.put o.dst undef) w'):wpL P ops C Q (i :: r) a w:=⟨o,undef,w',ho,⟨hw,.inr ⟨hr,rfl⟩⟩,hC,h⟩
theorem wpFL_take (hsel:∀ (j:Nat) (o:Oper) cs b,ops[j]? = some o → o.op ≠ .select cs b) {i:Nat} {o:Oper} (hi:ops[i]? = some o) (rest:List Nat) (X:World):∀ (r:List Nat) (a:Act),(∀ k ∈ r,∀ ok,ops[k]? = some ok → ok.apart ops o = true) →
    wpF P ops C (fun A=>wpL P ops C Q (i :: rest) A X) r a → ∃ v w',PlainY P ops o v X w' a ∧ C w' ∧ wpF P ops C (fun A=>wpL P ops C Q rest A w') r (a.put o.dst v)
  | [],a,_,⟨o',v,w',h1,h2,h3,h4⟩=>by
    rw [hi] at h1
    injection h1 with h1
    subst h1
    exact ⟨v,w',h2,h3,h4⟩
  | k :: r,a,hap,⟨ok,vk,h1,h2,h3⟩=>by
    obtain ⟨p1,p2,p3⟩:=Oper.apart_spec (hap k List.mem_cons_self ok h1)
    obtain ⟨v,w',g1,g2,g3⟩:=wpFL_take hsel hi rest X r _ (fun k' hk'=>hap k' (List.mem_cons_of_mem _ hk')) h3
    refine ⟨v,w',(PlainY.put (fun cs b=>hsel i o cs b hi) p1).1 g1,g2,ok,vk,h1,(StrC.put (fun cs b=>hsel k ok cs b h1) p3).2 h2,?_⟩
    rw [← Act.put_comm a vk v p2]
    exact g3
structure FloAt (P:Program) (ops:Array Oper) (W:World) (Q:Exit → Act → World → Prop) (C:World → Prop) (ql fl ll:List Nat) (L:Array Bool) (A:Act) (w:World):Prop where
  size:L.size = ops.size
  closed:Closed ops L
  way:((∀ i ∈ ll,L.getD i false = false) ∧ Ext W w ∧ wpS P ops W (fun A'=>wpF P ops C (fun A''=>∀ w',Ext W w' → wpL P ops C Q ll A'' w') (lf L fl) A') (lf L ql) A) ∨
    ((∀ k ∈ ql,L.getD k false = true) ∧ C w ∧ ∃ l1 l2,ll = l1 ++ l2 ∧ (∀ k ∈ l1,L.getD k false = true) ∧ (∀ k ∈ l2,L.getD k false = false) ∧ wpF P ops C (fun A''=>wpL P ops C Q l2 A'' w) (lf L fl) A)
theorem wp_region_flo {id:Nat} {a:Act} {w:World} (C:World → Prop) (hC0:∀ X,Ext w.drew X → C X) (ql fl ll:List Nat) (qlo:List Oper) (hmo:P.follows .mixedOrders = true) (hB:textB ops = true) (hne:ll ≠ []) (hql:ql.map (ops[·]?) = qlo.map some)
    (hnd:(ql ++ fl ++ ll).Nodup) (hcov0:∀ i ∈ List.range ops.size,i ∈ ql ++ fl ++ ll) (hin:∀ i ∈ ql ++ fl ++ ll,i < ops.size) (hq:ql.Pairwise (fun k j=>edgeB ops k j = true)) (hf:fl.Pairwise (fun k j=>edgeB ops k j = true)) (hqf:∀ j ∈ fl,∀ k ∈ ql,edgeB ops k j = true)
    (hl1:∀ j ∈ ll,∀ k ∈ ql,waits ops ops.size j k = true) (hfl:∀ j ∈ ll,∀ k ∈ fl,edgeB ops k j = true) (hl2:ll.Pairwise (fun k j=>waits ops ops.size j k = true))
    (h:wpStrong P ops w.drew (fun A=>wpF P ops C (fun A''=>∀ w',Ext w.drew w' → wpL P ops C Q ll A'' w') fl A) qlo a):(Code.region id ops true).wp P Q a w:=by
  obtain ⟨hsel,htx⟩:=textB_spec hB
  obtain ⟨nqf,nl,ndis⟩:=List.nodup_append.1 hnd
  obtain ⟨nq,nf,ndf⟩:=List.nodup_append.1 nqf
  have lq:∀ i ∈ ll,i ∉ ql ++ fl:=fun i hi e=>ndis i e i hi rfl
  refine wp_region_inv (I:=fun L A X=>FloAt P ops w.drew Q C ql fl ll L A X) hmo ?h0 ?hs ?he
  case h0=>
    have hf0:∀ k d,k < ops.size → (Array.replicate ops.size false).getD k d = false:=fun k d hk=>by unfold Array.getD; simp [hk]
    refine ⟨by simp,?_,.inl ⟨fun i hi=>hf0 i _ (hin i (by simp [hi])),Ext.refl _,?_⟩⟩
    · intro i o ho hi
      rw [hf0 i _ (Array.getElem?_eq_some_iff.1 ho).1] at hi
      cases hi
    · rw [lf_all fun k hk=>hf0 k _ (hin k (by simp [hk])),lf_all fun k hk=>hf0 k _ (hin k (by simp [hk]))]
      exact wpS_of_list ql qlo a hql h
  case hs=>
    intro L A X i o hI ho hl hdeps
    have hil:i < ops.size:=(Array.getElem?_eq_some_iff.1 ho).1
    have hiL:i < L.size:=by rw [hI.size]; exact hil
    have hlf:=getD_flip hl
    have hsize:(L.setIfInBounds i true).size = ops.size:=by simp [hI.size]
    have hclosed:=hI.closed.step ho hdeps
    have hcov:i ∈ ql ++ fl ++ ll:=hcov0 i (by simpa using hil)
    have hap:∀ k,edgeB ops k i = true → L.getD k true = false → ∀ ok,ops[k]? = some ok → ok.apart ops o = true:=by
      intro k hed hk ok hok
      rcases edgeB_spec ho hok hed with ⟨e,he,hbe,rfl⟩ | h2
      · have h3:=hdeps e he hbe
        rw [getD_flip hk] at h3
        cases h3
      · exact h2
    have hwt:∀ k,waits ops ops.size i k = true → L.getD k false = true:=fun k hk=>waits_listed hI.closed _ i k o ho hdeps hk
    have keep:∀ k d,i ≠ k → (L.setIfInBounds i true).getD k d = L.getD k d:=fun k d hk=>getD_set_ne d hk
    have hfl0:∀ k,k < ops.size → L.getD k false = L.getD k true:=fun k hk=>getD_flip' (by rw [hI.size]; exact hk)
    have late:∀ (l1 l2:List Nat),ll = l1 ++ l2 → i ∈ l2 → (∀ k ∈ l1,L.getD k false = true) → (∀ k ∈ l2,L.getD k false = false) → (∀ k ∈ ql,L.getD k false = true) → wpF P ops C (fun A''=>wpL P ops C Q l2 A'' X) (lf L fl) A →
        wpOp P ops Q i (fun A X=>FloAt P ops w.drew Q C ql fl ll (L.setIfInBounds i true) A X) A X:=by
      intro l1 l2 e1 hi2 e2 e3 hqd hw
      have hill:i ∈ ll:=by rw [e1]; simp [hi2]
      cases hl2':l2 with
      | nil=>rw [hl2'] at hi2; cases hi2
      | cons j l3=>
        have hl2'':=hl2
        have nl':=nl
        rw [e1,hl2'] at hl2'' nl'
        rw [hl2'] at hi2 e3 hw
        have hij:i = j:=by
          rcases List.mem_cons.1 hi2 with rfl | h2
          · rfl
          · have:=hwt j ((List.pairwise_cons.1 (List.pairwise_append.1 hl2'').2.1).1 i h2)
            rw [e3 j List.mem_cons_self] at this
            cases this
        subst hij
        obtain ⟨_,nl2,nl3⟩:=List.nodup_append.1 nl'
        obtain ⟨v,w',g1,g2,g3⟩:=wpFL_take hsel ho l3 X (lf L fl) A (fun k hk=>by
          obtain ⟨k1,k2⟩:=List.mem_filter.1 hk
          exact hap k (hfl i hill k k1) (by simpa using k2)) hw
        refine PlainY.wpOp ho g1 ⟨hsize,hclosed,.inr ⟨fun k hk=>?_,g2,l1 ++ [i],l3,by rw [e1,hl2']; simp,fun k hk=>?_,fun k hk=>?_,?_⟩⟩
        · rw [keep k _ (fun e=>lq i hill (by rw [e]; simp [hk]))]; exact hqd k hk
        · rcases List.mem_append.1 hk with h2 | h2
          · rw [keep k _ (fun e=>nl3 k h2 i List.mem_cons_self e.symm)]; exact e2 k h2
          · obtain rfl:k = i:=by simpa using h2
            exact getD_same hiL
        · rw [keep k _ (fun e=>(List.nodup_cons.1 nl2).1 (e ▸ hk))]
          exact e3 k (List.mem_cons_of_mem _ hk)
        · rw [lf_other (l:=fl) fun h2=>lq i hill (by simp [h2])]
          exact g3
    rcases hI.way with ⟨w2,hX,hw⟩ | ⟨w2,hCX,l1,l2,e1,e2,e3,hw⟩
    · rcases List.mem_append.1 hcov with hiqf | hill
      · have hll0:∀ k ∈ ll,(L.setIfInBounds i true).getD k false = false:=fun k hk=>by
          rw [keep k _ (fun e=>lq k hk (e ▸ hiqf))]; exact w2 k hk
        rcases List.mem_append.1 hiqf with hiq | hif
        · obtain ⟨r1,r2,s1,s2,s3⟩:=lf_split nq hq hiq hl
          rw [s1] at hw
          obtain ⟨v,hv,hr⟩:=wpS_take hsel ho r2 r1 A (fun k hk=>hap k (s3 k hk).1 (s3 k hk).2) hw
          refine StrongY.wpOp ho hX hv fun w' hw'=>⟨hsize,hclosed,.inl ⟨hll0,hX.trans hw',?_⟩⟩
          rw [s2,lf_other (l:=fl) fun h2=>ndf i hiq i h2 rfl]
          exact hr
        · obtain ⟨r1,r2,s1,s2,s3⟩:=lf_split nf hf hif hl
          rw [s1] at hw
          obtain ⟨v,hv,hr⟩:=wpSF_take hsel ho r1 r2 (fun k hk=>hap k (s3 k hk).1 (s3 k hk).2) (lf L ql) A (fun k hk=>by
            obtain ⟨k1,k2⟩:=List.mem_filter.1 hk
            exact hap k (hqf i hif k k1) (by simpa using k2)) hw
          refine StrC.wpOp ho (hC0 X hX) hv ⟨hsize,hclosed,.inl ⟨hll0,hX,?_⟩⟩
          rw [s2,lf_other (l:=ql) fun h2=>ndf i h2 i hif rfl]
          exact hr
      · have hqd:∀ k ∈ ql,L.getD k false = true:=fun k hk=>hwt k (hl1 i hill k hk)
        rw [lf_nil (l:=ql) fun k hk=>by rw [← hfl0 k (hin k (by simp [hk]))]; exact hqd k hk] at hw
        exact late [] ll rfl hill (fun k hk=>by cases hk) w2 hqd (wpF_mono (fun A'' hh=>hh X hX) _ _ hw)
    · rcases List.mem_append.1 hcov with hiqf | hill
      · rcases List.mem_append.1 hiqf with hiq | hif
        · rw [w2 i hiq] at hlf; cases hlf
        · obtain ⟨r1,r2,s1,s2,s3⟩:=lf_split nf hf hif hl
          rw [s1] at hw
          obtain ⟨v,hv,hr⟩:=wpF_take hsel ho r2 r1 A (fun k hk=>hap k (s3 k hk).1 (s3 k hk).2) hw
          refine StrC.wpOp ho hCX hv ⟨hsize,hclosed,.inr ⟨fun k hk=>?_,hCX,l1,l2,e1,fun k hk=>?_,fun k hk=>?_,?_⟩⟩
          · rw [keep k _ (fun e=>ndf k hk i hif e.symm)]; exact w2 k hk
          · rw [keep k _ (fun e=>lq k (by rw [e1]; simp [hk]) (e ▸ hiqf))]; exact e2 k hk
          · rw [keep k _ (fun e=>lq k (by rw [e1]; simp [hk]) (e ▸ hiqf))]; exact e3 k hk
          · rw [s2]; exact hr
      · have hi2:i ∈ l2:=by
          rw [e1] at hill
          rcases List.mem_append.1 hill with h2 | h2
          · rw [e2 i h2] at hlf; cases hlf
          · exact h2
        exact late l1 l2 e1 hi2 e2 e3 w2 hw
  case he=>
    intro L A X hI hr
    have hall:∀ n k,k < n → k < ops.size → L.getD k false = true:=by
      intro n
      induction n with
      | zero=>intro k hk; omega
      | succ n ih=>
        intro k hk hkn
        cases hv:L.getD k false with
        | true=>rfl
        | false=>
          exfalso
          have ho:ops[k]? = some ops[k]:=Array.getElem?_eq_getElem hkn
          have hmem:k ∈ Region.ready .any ops L:=mem_ready.2 ⟨by rw [← getD_flip' (by rw [hI.size]; omega)]; exact hv,ops[k],ho,fun e he hbe=>ih e.on (by have:=htx k _ ho e he hbe; omega) (by have:=htx k _ ho e he hbe; omega)⟩
          rw [hr] at hmem
          cases hmem
    have hk:∀ k,k < ops.size → L.getD k false = true:=fun k hk=>hall (k + 1) k (by omega) hk
    rcases hI.way with ⟨w2,_⟩ | ⟨w2,hCX,l1,l2,e1,e2,e3,hw⟩
    · cases hll':ll with
      | nil=>exact absurd hll' hne
      | cons j l2=>
        have:=w2 j (by rw [hll']; exact List.mem_cons_self)
        rw [hk j (hin j (by rw [hll']; simp))] at this
        cases this
    · cases l2 with
      | nil=>
        rw [lf_nil (l:=fl) fun k hk2=>by rw [← getD_flip' (by rw [hI.size]; exact hin k (by simp [hk2]))]; exact hk k (hin k (by simp [hk2]))] at hw
        exact hw
      | cons j l3=>
        have:=e3 j List.mem_cons_self
        rw [hk j (hin j (by rw [e1]; simp))] at this
        cases this
end
end Go.Proofs.YtfbmeclpcgdmhabDoor
namespace Go.Proofs.YtfbmeclpcgdmhabDoor
open Go.RowKit Go.BigFrame
def shB (b:BitVec 8) (k:Nat):BitVec 64:=b.setWidth 64 <<< k
def wK (p:Nat → BitVec 8):Nat → Nat → BitVec 64
  | 0,_=>0#64
  | n + 1,t=>if t = n / 8 then oW (wK p n t) (shB (p n) (8 * (n % 8))) else wK p n t
def wordsW (p:Nat → BitVec 8):Nat → BitVec 64:=wK p 128
theorem shB_fact (b:BitVec 8) (k:Nat):((b.toNat:Int) * ((2 ^ k:Nat):Int)) % 18446744073709551616 = ((shB b k).toNat:Int):=by
  unfold shB
  rw [BitVec.toNat_shiftLeft,BitVec.toNat_setWidth,Nat.shiftLeft_eq,Nat.mod_eq_of_lt (show b.toNat < 2 ^ 64 by have:=b.isLt; omega),Int.natCast_emod,Int.natCast_mul]
  rfl
theorem shB_wrap (b:BitVec 8) (k:Nat):IntKind.u64.wrap ((b.toNat:Int) * 2 ^ k) = ((shB b k).toNat:Int):=by
  rw [IntKind.wrap_u64,← shB_fact,Int.natCast_pow]
  rfl
theorem idx31 (p:Nat → BitVec 8) (n:Nat) (hn:n < 128) (X:World):(Instr.index 94 (.agg (row 128 (yv p)).toArray) (.int .i64 (n:Int))).run Tryd.prog X = .ok (.int .u8 ((p n).toNat:Int)) X:=by
  have hs:∀ X,(sizeOf 5).run Tryd.prog X = .ok 1 X:=fun X=>by kernel_rfl
  have ha:∀ X,(isAgg 5).run Tryd.prog X = .ok false X:=fun X=>by kernel_rfl
  have hg:=row_get 128 (yv p) n hn
  simp [Instr.index,run_underlying Tryd.underlying94,asIntOf,hn,part,ha,hs,hg,go_sem,yv]
theorem zero31 (w:World):Sem.run Tryd.prog (zeroValue 94) w = .ok (.agg (row 128 (yv fun _=>0#8)).toArray) w:=by kernel_rfl
set_option maxRecDepth 20000 in
set_option maxHeartbeats 1000000 in
theorem words_any (p:Nat → BitVec 8) (w:World):
    Calls Tryd.prog 73 #[.agg (row 128 (yv p)).toArray] w fun e w'=>e = .returned (.agg (row 16 (wv (wordsW p))).toArray) ∧ Below w.heap.size w w':=by
  have hz:=zero46
  obtain ⟨F,hF⟩:∃ F,F = wordsW p:=⟨_,rfl⟩
  rw [← hF]
  replace hF:=hideit hF
  have H0:Hid (RowAt w.heap.size 128 (yv p) (w.alloc (.cells (row 128 (yv p)).toArray 94))):=RowAt.new w 128 (yv p) 94
  go_enter Tryd.func73,Tryd.ntmps73
  go_upto_region 2 with (fail)
  have H1:RowAt w.heap.size 128 (yv p) (((w.alloc (.cells (row 128 (yv p)).toArray 94)).alloc (.cells (row 16 (wv fun _=>0#64)).toArray 25)).alloc (.cells (row 16 (wv fun _=>0#64)).toArray 25)):=(H0.out.alloc _).alloc _
  have H2:RowAt (w.heap.size + 1) 16 (wv fun _=>0#64) (((w.alloc (.cells (row 128 (yv p)).toArray 94)).alloc (.cells (row 16 (wv fun _=>0#64)).toArray 25)).alloc (.cells (row 16 (wv fun _=>0#64)).toArray 25)):=by
    have:=(RowAt.new (w.alloc (.cells (row 128 (yv p)).toArray 94)) 16 (wv fun _=>0#64) 25).alloc (.cells (row 16 (wv fun _=>0#64)).toArray 25)
    simpa using this
  have H3:RowAt (w.heap.size + 1 + 1) 16 (wv fun _=>0#64) (((w.alloc (.cells (row 128 (yv p)).toArray 94)).alloc (.cells (row 16 (wv fun _=>0#64)).toArray 25)).alloc (.cells (row 16 (wv fun _=>0#64)).toArray 25)):=by
    have:=RowAt.new ((w.alloc (.cells (row 128 (yv p)).toArray 94)).alloc (.cells (row 16 (wv fun _=>0#64)).toArray 25)) 16 (wv fun _=>0#64) 25
    simpa using this
  have HB:Ext w (((w.alloc (.cells (row 128 (yv p)).toArray 94)).alloc (.cells (row 16 (wv fun _=>0#64)).toArray 25)).alloc (.cells (row 16 (wv fun _=>0#64)).toArray 25)):=(((Below.refl _ _).alloc (Nat.le_refl _) _).alloc (by simp) _).alloc (by simp; omega) _
  replace H1:=hideit H1
  replace H2:=hideit H2
  replace H3:=hideit H3
  replace HB:=hideit HB
  generalize ((w.alloc (.cells (row 128 (yv p)).toArray 94)).alloc (.cells (row 16 (wv fun _=>0#64)).toArray 25)).alloc (.cells (row 16 (wv fun _=>0#64)).toArray 25) = w1 at *
  clear H0
  refine wp_region_lit ?_
  refine wpList_load_mid rfl 94 (.tmp 1) rfl _ 0 rfl (row 128 (yv p)) _ H1.out.range Tryd.underlying94 rfl (by rw [row_length]; exact info31) ?_
  simp only [jk,jq,jv,jy]
  go_wp2
  go_loopw [7] (fun i wr=>∃ n:Nat,n ≤ 128 ∧ i = .int .i64 n ∧ RowAt (w.heap.size + 1) 16 (wv fun _=>0#64) wr ∧ RowAt (w.heap.size + 1 + 1) 16 (wv (wK p n)) wr ∧ Ext w wr) (fun i _=>128 - (intOf i).toNat)
  case atStart=>exact ⟨0,by omega,rfl,H2.out,H3.out,HB.out⟩
  case round=>
    clear H1 H2 H3 HB
    obtain ⟨n,hn,rfl,h2,h3,h4⟩:=hrel
    have H2:=hideit h2
    have H3:=hideit h3
    have H4:=hideit h4
    clear h2 h3 h4
    by_cases hlt:n < 128
    · have i0:(0:Int) ≤ (n:Int):=by omega
      have i1:(n:Int) < 128:=by omega
      have hidx:=idx31 p n hlt
      go_upto_region 5 with (fail)
      clear hidx
      have hne:=kept_ne wr.drew
      have e3:∀ k:Kept (Ext wr.drew),k.w.cell? ⟨w.heap.size + 1 + 1,n / 8,none⟩ = some (.int .u64 ((wK p n (n / 8)).toNat:Int)):=fun k=>H3.out.kept (n / 8) (by omega) k
      have hsh:=shB_wrap (p n) (8 * (n % 8))
      have hor:=oW_fact (wK p n (n / 8)) (shB (p n) (8 * (n % 8)))
      refine wp_region_late 11 (by kernel_rfl) (by kernel_rfl) (by decide) ?_
      simp only [List.take_succ_cons,List.take_zero,List.drop_succ_cons,List.drop_zero]
      refine wpStrong_run 11 rfl ?_
      simp only [List.take_succ_cons,List.take_zero,List.drop_succ_cons,List.drop_zero]
      repeat (go_big_quiet_step (fail))
      refine wpQuiet_nil ?_
      refine wpStrong_nil ?_
      intro X hX
      have hwX:Ext wr X:=Ext.trans (Below.refl _ _).drew hX
      have H2':=hideit (H2.out.carry hwX)
      have H3':=hideit (H3.out.carry hwX)
      have H4':=hideit (Ext.trans H4.out hwX)
      have eX:=H3'.out.1 (n / 8) (by omega)
      have gX:=H3'.out.2.1 (n / 8) (by omega)
      clear hwX hX H2 H3 H4 hne e3 hsh hor
      have q0:(0:Int) ≤ (n:Int) / 8:=by omega
      have q1:(n:Int) / 8 < 16:=by omega
      simp only [wv] at eX
      have HF:RowAt (w.heap.size + 1 + 1) 16 (wv (wK p (n + 1))) (X.setCell ⟨w.heap.size + 1 + 1,n / 8,none⟩ (.int .u64 ((oW (wK p n (n / 8)) (shB (p n) (8 * (n % 8)))).toNat:Int))):=(H3'.out.set (n / 8) (.int .u64 ((oW (wK p n (n / 8)) (shB (p n) (8 * (n % 8)))).toNat:Int))).congr fun j _=>by
        simp only [wv,wK]
        by_cases e:j = n / 8
        · subst e; rw [if_pos rfl,if_pos rfl]
        · rw [if_neg e,if_neg e]
      replace HF:=hideit HF
      go_wp2
      refine ⟨⟨n + 1,by omega,by go_num,H2'.out.other _ _ (by simp),HF.out,H4'.out.setCell (by simp; omega) _⟩,by simp [intOf]; omega⟩
    · obtain rfl:n = 128:=by omega
      have HR:=H3
      have HR0:=H2
      have hB:=H4
      have hW:wK p 128 = F:=hF.out.symm
      rw [hW] at HR
      clear H2 H3 H4 hW
      go_wp2_with (first | (refine wpList_load_mid rfl 25 (.tmp 3) rfl _ 0 rfl (row 16 (wv F)) _ HR.out.range Tryd.underlying25 rfl (by rw [row_length]; exact info46) ?_) | (refine wpList_store_mid rfl 25 (.tmp 2) (.tmp 24) rfl _ 0 (row 16 (wv F)).toArray rfl rfl (by rw [row_size]; exact HR0.out.there) (by rw [row_size]; exact info46) (row_one fun _ _=>rfl) ?_))
      exact bodyPost_ret (ret_row Tryd.results73 rfl (HR0.out.cells (g':=wv F)) Tryd.underlying25 rfl info46) rfl ⟨rfl,below_setCells _ (by omega) _ _ _ hB.out⟩
end Go.Proofs.YtfbmeclpcgdmhabDoor
