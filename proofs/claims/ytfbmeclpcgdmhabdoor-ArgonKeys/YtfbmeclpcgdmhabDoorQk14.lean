/-
  A law for regions that draw their order, in which calls yield fresh memory: operations that only read first, then the makers in any order, the late operations behind them all. One walk serves every order. A region that draws its order, makes one block and ends with late operations: the quiet ones first in the text.
-/
import Derived.Test.YtfbmeclpcgdmhabDoorQk7
namespace Go.Proofs.YtfbmeclpcgdmhabDoor
open Go.RowKit
structure Sp where
  V:Nat → Value
  S:Nat → World → Prop
section
variable {P:Program} {ops:Array Oper} {W:World} {Q:Exit → Act → World → Prop} {sp:Nat → Sp}
def genUpon (P:Program) (X:World) (s:Sp):Result Next → Prop
  | .ok (.value u) w'=>∃ b,X.heap.size ≤ b ∧ b < w'.heap.size ∧ u = s.V b ∧ s.S b w' ∧ Ext X w'
  | .ok (.enter f args) w'=>w' = X ∧ Calls P f args X fun e w''=>∃ b,X.heap.size ≤ b ∧ b < w''.heap.size ∧ e = .returned (s.V b) ∧ s.S b w'' ∧ Ext X w''
  | _=>False
def GenY (P:Program) (ops:Array Oper) (W:World) (o:Oper) (s:Sp) (a:Act):Prop:=
  Region.wanted o (yielded ops a.tmps) = true ∧ ∀ X,Ext W X → genUpon P X s ((execOp a.eval o).run P X)
theorem GenY.put {o:Oper} {s:Sp} {u:Value} {a:Act} {d:Option Tmp} (hs:∀ cs b,o.op ≠ .select cs b) (h:∀ t,d = some t → t ∉ o.looksAt ops):GenY P ops W o s (a.put d u) ↔ GenY P ops W o s a:=by
  unfold GenY
  rw [execOp_put (ops:=ops) o hs a d u h,wanted_put o a d u h]
theorem GenY.call {o:Oper} {s:Sp} {a:Act} {f:FuncId} {args:Array Value} (hw:Region.wanted o (yielded ops a.tmps) = true) (hr:∀ w,(execOp a.eval o).run P w = .ok (.enter f args) w)
    (hc:∀ w,Ext W w → Calls P f args w fun e w'=>∃ b,w.heap.size ≤ b ∧ b < w'.heap.size ∧ e = .returned (s.V b) ∧ s.S b w' ∧ Ext w w'):GenY P ops W o s a:=
  ⟨hw,fun w h=>by rw [hr w]; exact ⟨rfl,hc w h⟩⟩
theorem GenY.wpOp {i:Nat} {o:Oper} {s:Sp} {a:Act} {w:World} {K:Act → World → Prop} (hi:ops[i]? = some o) (hw:Ext W w) (hy:GenY P ops W o s a) (hK:∀ b w',w.heap.size ≤ b → b < w'.heap.size → s.S b w' → Ext w w' → K (a.put o.dst (s.V b)) w'):wpOp P ops Q i K a w:=by
  unfold Go.wpOp
  rw [hi]
  obtain ⟨h1,h2⟩:=hy
  simp only [h1,if_true]
  refine .inl ?_
  have h3:=h2 w hw
  unfold Oper.wp
  generalize (execOp a.eval o).run P w = r at *
  cases r with
  | ok n w'=>
    cases n <;> simp only [genUpon] at h3 <;> simp only [Oper.upon]
    case value u=>
      obtain ⟨b,k1,k2,rfl,k3,k4⟩:=h3
      exact hK b _ k1 k2 k3 k4
    case enter f args=>
      obtain ⟨rfl,hc⟩:=h3
      exact hc.mono fun e w'' ⟨b,k1,k2,he,k3,k4⟩=>by subst he; exact hK b _ k1 k2 k3 k4
  | halt x w'=>simp only [genUpon] at h3
def wpN (P:Program) (ops:Array Oper) (W:World) (sp:Nat → Sp) (E:Act → List (Nat × Nat) → Prop):List Nat → Act → List (Nat × Nat) → Prop
  | [],a,T=>E a T
  | i :: r,a,T=>∃ o,ops[i]? = some o ∧ GenY P ops W o (sp i) a ∧ ∀ b,W.heap.size ≤ b → (∀ y ∈ T,y.1 ≠ b) → wpN P ops W sp E r (a.put o.dst ((sp i).V b)) ((b,i) :: T)
def HoldsN (sp:Nat → Sp) (T:List (Nat × Nat)) (w:World):Prop:=∀ y ∈ T,(sp y.2).S y.1 w ∧ y.1 < w.heap.size
theorem HoldsN.ext (hst:∀ i b w w',(sp i).S b w → Ext w w' → (sp i).S b w') {T:List (Nat × Nat)} {w w':World} (h:HoldsN sp T w) (k:Ext w w'):HoldsN sp T w':=fun y hy=>⟨hst _ _ _ _ (h y hy).1 k,Nat.lt_of_lt_of_le (h y hy).2 (Below.size k)⟩
theorem fresh_b (n:Nat):∀ T:List (Nat × Nat),∃ b,n ≤ b ∧ ∀ y ∈ T,y.1 < b
  | []=>⟨n,Nat.le_refl _,fun y hy=>by cases hy⟩
  | t :: T=>by
    obtain ⟨b,h1,h2⟩:=fresh_b n T
    refine ⟨b + t.1 + 1,by omega,fun y hy=>?_⟩
    rcases List.mem_cons.1 hy with rfl | hy
    · omega
    · have:=h2 y hy
      omega
theorem wpN_congr {E:Act → List (Nat × Nat) → Prop} (hE:∀ a T T',(∀ y,y ∈ T ↔ y ∈ T') → E a T → E a T'):∀ (l:List Nat) (a:Act) (T T':List (Nat × Nat)),(∀ y,y ∈ T ↔ y ∈ T') → wpN P ops W sp E l a T → wpN P ops W sp E l a T'
  | [],_,_,_,hT,h=>hE _ _ _ hT h
  | i :: r,a,T,T',hT,⟨o,h1,h2,h3⟩=>⟨o,h1,h2,fun b hb hn=>wpN_congr hE r _ _ _ (fun y=>by simp only [List.mem_cons,hT]) (h3 b hb fun y hy=>hn y ((hT y).1 hy))⟩
theorem wpN_take {E:Act → List (Nat × Nat) → Prop} (hE:∀ a T T',(∀ y,y ∈ T ↔ y ∈ T') → E a T → E a T') (hsel:∀ (j:Nat) (o:Oper) cs b,ops[j]? = some o → o.op ≠ .select cs b) {i:Nat} {o:Oper} (hi:ops[i]? = some o) (r2:List Nat):∀ (r1:List Nat) (a:Act) (T:List (Nat × Nat)),(∀ k ∈ r1,∀ ok,ops[k]? = some ok → ok.apart ops o = true) →
    wpN P ops W sp E (r1 ++ i :: r2) a T → GenY P ops W o (sp i) a ∧ ∀ b,W.heap.size ≤ b → (∀ y ∈ T,y.1 ≠ b) → wpN P ops W sp E (r1 ++ r2) (a.put o.dst ((sp i).V b)) ((b,i) :: T)
  | [],a,T,_,⟨o',h1,h2,h3⟩=>by
    rw [hi] at h1
    injection h1 with h1
    subst h1
    exact ⟨h2,h3⟩
  | k :: r1,a,T,hap,⟨ok,h1,h2,h3⟩=>by
    obtain ⟨p1,p2,p3⟩:=Oper.apart_spec (hap k List.mem_cons_self ok h1)
    have ih:=fun b hb hn=>wpN_take hE hsel hi r2 r1 _ _ (fun k' hk'=>hap k' (List.mem_cons_of_mem _ hk')) (h3 b hb hn)
    obtain ⟨b0,hb0,hb1⟩:=fresh_b W.heap.size T
    refine ⟨(GenY.put (fun cs b=>hsel i o cs b hi) p1).1 (ih b0 hb0 (fun y hy=>Nat.ne_of_lt (hb1 y hy))).1,fun b hb hn=>⟨ok,h1,(GenY.put (fun cs b=>hsel k ok cs b h1) p3).2 h2,fun bk hbk hnk=>?_⟩⟩
    have g2:=(ih bk hbk (fun y hy=>hnk y (List.mem_cons_of_mem _ hy))).2 b hb (fun y hy=>by
      rcases List.mem_cons.1 hy with rfl | hy
      · intro e
        exact hnk _ List.mem_cons_self e.symm
      · exact hn y hy)
    rw [Act.put_comm a _ _ p2] at g2
    exact wpN_congr hE _ _ _ _ (fun y=>by simp only [List.mem_cons]; exact ⟨fun h=>h.elim (fun h=>.inr (.inl h)) (fun h=>h.elim .inl (fun h=>.inr (.inr h))),fun h=>h.elim (fun h=>.inr (.inl h)) (fun h=>h.elim .inl (fun h=>.inr (.inr h)))⟩) g2
theorem wpSN_take {E:Act → List (Nat × Nat) → Prop} (hE:∀ a T T',(∀ y,y ∈ T ↔ y ∈ T') → E a T → E a T') (hsel:∀ (j:Nat) (o:Oper) cs b,ops[j]? = some o → o.op ≠ .select cs b) {i:Nat} {o:Oper} (hi:ops[i]? = some o) (s1 s2:List Nat) (T:List (Nat × Nat))
    (hs1:∀ k ∈ s1,∀ ok,ops[k]? = some ok → ok.apart ops o = true):∀ (r:List Nat) (a:Act),(∀ k ∈ r,∀ ok,ops[k]? = some ok → ok.apart ops o = true) →
    wpS P ops W (fun A=>wpN P ops W sp E (s1 ++ i :: s2) A T) r a → GenY P ops W o (sp i) a ∧ ∀ b,W.heap.size ≤ b → (∀ y ∈ T,y.1 ≠ b) → wpS P ops W (fun A=>wpN P ops W sp E (s1 ++ s2) A ((b,i) :: T)) r (a.put o.dst ((sp i).V b))
  | [],a,_,h=>wpN_take hE hsel hi s2 s1 a T hs1 h
  | k :: r,a,hap,⟨ok,vk,h1,h2,h3⟩=>by
    obtain ⟨p1,p2,p3⟩:=Oper.apart_spec (hap k List.mem_cons_self ok h1)
    obtain ⟨g1,g2⟩:=wpSN_take hE hsel hi s1 s2 T hs1 r _ (fun k' hk'=>hap k' (List.mem_cons_of_mem _ hk')) h3
    refine ⟨(GenY.put (fun cs b=>hsel i o cs b hi) p1).1 g1,fun b hb hn=>⟨ok,vk,h1,(StrongY.put (fun cs b=>hsel k ok cs b h1) p3).2 h2,?_⟩⟩
    rw [← Act.put_comm a vk _ p2]
    exact g2 b hb hn
structure TwoAt (P:Program) (ops:Array Oper) (W:World) (Q:Exit → Act → World → Prop) (sp:Nat → Sp) (ql ml ll:List Nat) (lops:List Oper) (L:Array Bool) (A:Act) (w:World):Prop where
  size:L.size = ops.size
  closed:Closed ops L
  way:((∀ i ∈ ll,L.getD i false = false) ∧ Ext W w ∧ ∃ T,HoldsN sp T w ∧ wpS P ops W (fun A'=>wpN P ops W sp (fun A'' T'=>∀ w',Ext W w' → HoldsN sp T' w' → wpList P ops Q lops A'' w') (lf L ml) A' T) (lf L ql) A) ∨
    ((∀ k ∈ ql ++ ml,L.getD k false = true) ∧ ∃ l1 l2 lo2,ll = l1 ++ l2 ∧ (∀ k ∈ l1,L.getD k false = true) ∧ (∀ k ∈ l2,L.getD k false = false) ∧ l2.map (ops[·]?) = lo2.map some ∧ wpList P ops Q lo2 A w)
theorem wp_region_two {id:Nat} {a:Act} {w:World} (sp:Nat → Sp) (hst:∀ i b w w',(sp i).S b w → Ext w w' → (sp i).S b w') (ql ml ll:List Nat) (qlo lops:List Oper) (hmo:P.follows .mixedOrders = true) (hB:textB ops = true) (hql:ql.map (ops[·]?) = qlo.map some) (hll:ll.map (ops[·]?) = lops.map some)
    (hnd:(ql ++ ml ++ ll).Nodup) (hcov0:∀ i ∈ List.range ops.size,i ∈ ql ++ ml ++ ll) (hin:∀ i ∈ ql ++ ml ++ ll,i < ops.size) (hq:ql.Pairwise (fun k j=>edgeB ops k j = true)) (hm:ml.Pairwise (fun k j=>edgeB ops k j = true)) (hqm:∀ j ∈ ml,∀ k ∈ ql,edgeB ops k j = true)
    (hl1:∀ j ∈ ll,∀ k ∈ ql ++ ml,waits ops ops.size j k = true) (hl2:ll.Pairwise (fun k j=>waits ops ops.size j k = true))
    (h:wpStrong P ops w.drew (fun A=>wpN P ops w.drew sp (fun A'' T'=>∀ w',Ext w.drew w' → HoldsN sp T' w' → wpList P ops Q lops A'' w') ml A []) qlo a):(Code.region id ops true).wp P Q a w:=by
  obtain ⟨hsel,htx⟩:=textB_spec hB
  obtain ⟨nqm,nl,ndis⟩:=List.nodup_append.1 hnd
  obtain ⟨nq,nm,ndm⟩:=List.nodup_append.1 nqm
  have lq:∀ i ∈ ll,i ∉ ql ++ ml:=fun i hi e=>ndis i e i hi rfl
  have hE:∀ (a:Act) (T T':List (Nat × Nat)),(∀ y,y ∈ T ↔ y ∈ T') → (∀ w',Ext w.drew w' → HoldsN sp T w' → wpList P ops Q lops a w') → (∀ w',Ext w.drew w' → HoldsN sp T' w' → wpList P ops Q lops a w'):=
    fun a T T' hT hh w' hw' hH=>hh w' hw' fun y hy=>hH y ((hT y).1 hy)
  refine wp_region_inv (I:=fun L A X=>TwoAt P ops w.drew Q sp ql ml ll lops L A X) hmo ?h0 ?hs ?he
  case h0=>
    have hf:∀ k d,k < ops.size → (Array.replicate ops.size false).getD k d = false:=fun k d hk=>by unfold Array.getD; simp [hk]
    refine ⟨by simp,?_,.inl ⟨fun i hi=>hf i _ (hin i (by simp [hi])),Ext.refl _,[],(fun y hy=>by cases hy),?_⟩⟩
    · intro i o ho hi
      rw [hf i _ (Array.getElem?_eq_some_iff.1 ho).1] at hi
      cases hi
    · rw [lf_all fun k hk=>hf k _ (hin k (by simp [hk])),lf_all fun k hk=>hf k _ (hin k (by simp [hk]))]
      exact wpS_of_list ql qlo a hql h
  case hs=>
    intro L A X i o hI ho hl hdeps
    have hil:i < ops.size:=(Array.getElem?_eq_some_iff.1 ho).1
    have hiL:i < L.size:=by rw [hI.size]; exact hil
    have hlf:=getD_flip hl
    have hsize:(L.setIfInBounds i true).size = ops.size:=by simp [hI.size]
    have hclosed:=hI.closed.step ho hdeps
    have hcov:i ∈ ql ++ ml ++ ll:=hcov0 i (by simpa using hil)
    have hap:∀ k,edgeB ops k i = true → L.getD k true = false → ∀ ok,ops[k]? = some ok → ok.apart ops o = true:=by
      intro k hed hk ok hok
      rcases edgeB_spec ho hok hed with ⟨e,he,hbe,rfl⟩ | h2
      · have h3:=hdeps e he hbe
        rw [getD_flip hk] at h3
        cases h3
      · exact h2
    have hwt:∀ k,waits ops ops.size i k = true → L.getD k false = true:=fun k hk=>waits_listed hI.closed _ i k o ho hdeps hk
    have keep:∀ k d,i ≠ k → (L.setIfInBounds i true).getD k d = L.getD k d:=fun k d hk=>getD_set_ne d hk
    have hfl:∀ k,k < ops.size → L.getD k false = L.getD k true:=fun k hk=>getD_flip' (by rw [hI.size]; exact hk)
    rcases hI.way with ⟨w2,hX,T,hT,hw⟩ | ⟨w2,l1,l2,lo2,e1,e2,e3,e4,hw⟩
    · rcases List.mem_append.1 hcov with hiqm | hil2
      · have hll0:∀ k ∈ ll,(L.setIfInBounds i true).getD k false = false:=fun k hk=>by
          rw [keep k _ (fun e=>lq k hk (e ▸ hiqm))]; exact w2 k hk
        rcases List.mem_append.1 hiqm with hiq | him
        · obtain ⟨r1,r2,s1,s2,s3⟩:=lf_split nq hq hiq hl
          rw [s1] at hw
          obtain ⟨v,hv,hr⟩:=wpS_take hsel ho r2 r1 A (fun k hk=>hap k (s3 k hk).1 (s3 k hk).2) hw
          refine StrongY.wpOp ho hX hv fun w' hw'=>⟨hsize,hclosed,.inl ⟨hll0,hX.trans hw',T,hT.ext hst hw',?_⟩⟩
          rw [s2,lf_other fun hm2=>ndm i hiq i hm2 rfl]
          exact hr
        · obtain ⟨r1,r2,s1,s2,s3⟩:=lf_split nm hm him hl
          rw [s1] at hw
          obtain ⟨hg,hr⟩:=wpSN_take hE hsel ho r1 r2 T (fun k hk=>hap k (s3 k hk).1 (s3 k hk).2) (lf L ql) A (fun k hk=>by
            obtain ⟨k1,k2⟩:=List.mem_filter.1 hk
            exact hap k (hqm i him k k1) (by simpa using k2)) hw
          refine GenY.wpOp ho hX hg fun b w' hb1 hb2 hS hw'=>⟨hsize,hclosed,.inl ⟨hll0,hX.trans hw',(b,i) :: T,?_,?_⟩⟩
          · intro y hy
            rcases List.mem_cons.1 hy with rfl | hy
            · exact ⟨hS,hb2⟩
            · exact (hT.ext hst hw') y hy
          · rw [s2,lf_other fun hm2=>ndm i hm2 i him rfl]
            exact hr b (Nat.le_trans (Below.size hX) hb1) fun y hy=>Nat.ne_of_lt (Nat.lt_of_lt_of_le (hT y hy).2 hb1)
      · have hall:∀ k ∈ ql ++ ml,L.getD k false = true:=fun k hk=>hwt k (hl1 i hil2 k hk)
        rw [lf_nil (l:=ql) fun k hk=>by rw [← hfl k (hin k (by simp [hk]))]; exact hall k (by simp [hk]),lf_nil (l:=ml) fun k hk=>by rw [← hfl k (hin k (by simp [hk]))]; exact hall k (by simp [hk])] at hw
        have hw2:wpList P ops Q lops A X:=hw X hX hT
        cases hll':ll with
        | nil=>rw [hll'] at hil2; cases hil2
        | cons j l2=>
          have hij:i = j:=by
            rw [hll'] at hil2 hl2
            rcases List.mem_cons.1 hil2 with rfl | h2
            · rfl
            · have:=hwt j ((List.pairwise_cons.1 hl2).1 i h2)
              rw [w2 j (by rw [hll']; exact List.mem_cons_self)] at this
              cases this
          subst hij
          rw [hll'] at hll nl
          cases lops with
          | nil=>simp at hll
          | cons o' lo2=>
            simp only [List.map_cons,List.cons.injEq] at hll
            rw [ho] at hll
            obtain ⟨ho',hrest⟩:=hll
            injection ho' with ho'
            subst ho'
            refine wpOp_of_list ho hw2 fun a' w' hh=>⟨hsize,hclosed,.inr ⟨fun k hk=>?_,[i],l2,lo2,rfl,fun k hk=>?_,fun k hk=>?_,hrest,hh⟩⟩
            · rw [keep k _ (fun e=>lq i (by rw [hll']; exact List.mem_cons_self) (e ▸ hk))]; exact hall k hk
            · obtain rfl:k = i:=by simpa using hk
              exact getD_same hiL
            · rw [keep k _ (fun e=>(List.nodup_cons.1 nl).1 (e ▸ hk))]
              exact w2 k (by rw [hll']; exact List.mem_cons_of_mem _ hk)
    · rcases List.mem_append.1 hcov with hiq | hil2
      · rw [w2 i hiq] at hlf; cases hlf
      · have hi2:i ∈ l2:=by
          rw [e1] at hil2
          rcases List.mem_append.1 hil2 with h2 | h2
          · rw [e2 i h2] at hlf; cases hlf
          · exact h2
        cases l2 with
        | nil=>cases hi2
        | cons j l3=>
          have hl2':=hl2
          have nl':=nl
          rw [e1] at hl2' nl'
          have hij:i = j:=by
            rcases List.mem_cons.1 hi2 with rfl | h2
            · rfl
            · have:=hwt j ((List.pairwise_cons.1 (List.pairwise_append.1 hl2').2.1).1 i h2)
              rw [e3 j List.mem_cons_self] at this
              cases this
          subst hij
          cases lo2 with
          | nil=>simp at e4
          | cons o' lo3=>
            simp only [List.map_cons,List.cons.injEq] at e4
            rw [ho] at e4
            obtain ⟨ho',hrest⟩:=e4
            injection ho' with ho'
            subst ho'
            obtain ⟨_,nl2,nl3⟩:=List.nodup_append.1 nl'
            refine wpOp_of_list ho hw fun a' w' hh=>⟨hsize,hclosed,.inr ⟨fun k hk=>?_,l1 ++ [i],l3,lo3,by rw [e1]; simp,fun k hk=>?_,fun k hk=>?_,hrest,hh⟩⟩
            · rw [keep k _ (fun e=>lq i hil2 (e ▸ hk))]; exact w2 k hk
            · rcases List.mem_append.1 hk with h2 | h2
              · rw [keep k _ (fun e=>nl3 k h2 i List.mem_cons_self e.symm)]; exact e2 k h2
              · obtain rfl:k = i:=by simpa using h2
                exact getD_same hiL
            · rw [keep k _ (fun e=>(List.nodup_cons.1 nl2).1 (e ▸ hk))]
              exact e3 k (List.mem_cons_of_mem _ hk)
  case he=>
    intro L A X hI hr
    have hall:∀ n k,k < n → k < ops.size → L.getD k false = true:=by
      intro n
      induction n with
      | zero=>intro k hk; omega
      | succ n ih=>
        intro k hk hkn
        cases hv:L.getD k false with
        | true=>rfl
        | false=>
          exfalso
          have ho:ops[k]? = some ops[k]:=Array.getElem?_eq_getElem hkn
          have hmem:k ∈ Region.ready .any ops L:=mem_ready.2 ⟨by rw [← getD_flip' (by rw [hI.size]; omega)]; exact hv,ops[k],ho,fun e he hbe=>ih e.on (by have:=htx k _ ho e he hbe; omega) (by have:=htx k _ ho e he hbe; omega)⟩
          rw [hr] at hmem
          cases hmem
    have hk:∀ k,k < ops.size → L.getD k false = true:=fun k hk=>hall (k + 1) k (by omega) hk
    rcases hI.way with ⟨w2,hX,T,hT,hw⟩ | ⟨w2,l1,l2,lo2,e1,e2,e3,e4,hw⟩
    · rw [lf_nil (l:=ql) fun k hk2=>by rw [← getD_flip' (by rw [hI.size]; exact hin k (by simp [hk2]))]; exact hk k (hin k (by simp [hk2])),lf_nil (l:=ml) fun k hk2=>by rw [← getD_flip' (by rw [hI.size]; exact hin k (by simp [hk2]))]; exact hk k (hin k (by simp [hk2]))] at hw
      have hw2:wpList P ops Q lops A X:=hw X hX hT
      cases hll':ll with
      | nil=>
        rw [hll'] at hll
        have:lops = []:=by cases lops with | nil=>rfl | cons _ _=>simp at hll
        rw [this] at hw2
        exact hw2
      | cons j l2=>
        have:=w2 j (by rw [hll']; exact List.mem_cons_self)
        rw [hk j (hin j (by rw [hll']; simp))] at this
        cases this
    · cases l2 with
      | nil=>
        have:lo2 = []:=by cases lo2 with | nil=>rfl | cons _ _=>simp at e4
        rw [this] at hw
        exact hw
      | cons j l3=>
        have:=e3 j List.mem_cons_self
        rw [hk j (hin j (by rw [e1]; simp))] at this
        cases this
end
end Go.Proofs.YtfbmeclpcgdmhabDoor
namespace Go.Proofs.YtfbmeclpcgdmhabDoor
open Go.RowKit
end Go.Proofs.YtfbmeclpcgdmhabDoor
