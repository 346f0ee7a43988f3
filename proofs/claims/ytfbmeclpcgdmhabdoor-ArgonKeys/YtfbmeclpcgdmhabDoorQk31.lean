/-
  A region that draws its order, told as in Lad; besides, an operation that waits for all that is listed ahead of it may turn what the floating reads saw; no word of the program. Pages of addresses.
-/
import Derived.Test.YtfbmeclpcgdmhabDoorQk25
import Derived.Test.YtfbmeclpcgdmhabDoorQk1
import Derived.Test.YtfbmeclpcgdmhabDoorQk30
namespace Go.Proofs.YtfbmeclpcgdmhabDoor
open Go.RowKit
section
variable {P:Program} {ops:Array Oper} {Q:Exit → Act → World → Prop} {brk:List Nat}
def wpZ (P:Program) (ops:Array Oper) (Q:Exit → Act → World → Prop) (brk:List Nat):List (Bool × Nat) → (World → Prop) → Act → World → Prop
  | [],_,a,w=>Q .normal a w
  | (false,i) :: r,C,a,w=>∃ o v,ops[i]? = some o ∧ StrC P ops C o v a ∧ wpZ P ops Q brk r C (a.put o.dst v) w
  | (true,i) :: r,C,a,w=>∃ o,ops[i]? = some o ∧ EffY P ops o w (fun v w'=>∃ C':World → Prop,(i ∈ brk ∨ ∀ X,C' X → C X) ∧ C' w' ∧ wpZ P ops Q brk r C' (a.put o.dst v) w') a
theorem wpZ_float {C:World → Prop} (hsel:∀ (j:Nat) (o:Oper) cs b,ops[j]? = some o → o.op ≠ .select cs b) {i:Nat} {o:Oper} (hi:ops[i]? = some o) (s2:List (Bool × Nat)) {w:World}:∀ (s1:List (Bool × Nat)) (a:Act),(∀ p ∈ s1,p.1 = false ∧ ∀ ok,ops[p.2]? = some ok → ok.apart ops o = true) →
    wpZ P ops Q brk (s1 ++ (false,i) :: s2) C a w → ∃ v,StrC P ops C o v a ∧ wpZ P ops Q brk (s1 ++ s2) C (a.put o.dst v) w
  | [],a,_,⟨o',v,h1,h2,h3⟩=>by
    rw [hi] at h1
    injection h1 with h1
    subst h1
    exact ⟨v,h2,h3⟩
  | (true,k) :: s1,a,hap,h=>by have:=(hap (true,k) List.mem_cons_self).1; cases this
  | (false,k) :: s1,a,hap,⟨ok,vk,h1,h2,h3⟩=>by
    obtain ⟨p1,p2,p3⟩:=Oper.apart_spec ((hap (false,k) List.mem_cons_self).2 ok h1)
    obtain ⟨v,g1,g2⟩:=wpZ_float hsel hi s2 s1 _ (fun k' hk'=>hap k' (List.mem_cons_of_mem _ hk')) h3
    refine ⟨v,(StrC.put (fun cs b=>hsel i o cs b hi) p1).1 g1,ok,vk,h1,(StrC.put (fun cs b=>hsel k ok cs b h1) p3).2 h2,?_⟩
    rw [← Act.put_comm a vk v p2]
    exact g2
theorem wpZ_stand {C:World → Prop} (hsel:∀ (j:Nat) (o:Oper) cs b,ops[j]? = some o → o.op ≠ .select cs b) {i:Nat} {o:Oper} (hi:ops[i]? = some o) (s2:List (Bool × Nat)) {w:World}:∀ (s1:List (Bool × Nat)) (a:Act),(s1 = [] ∨ i ∉ brk) → (∀ p ∈ s1,p.1 = false ∧ ∀ ok,ops[p.2]? = some ok → ok.apart ops o = true) →
    wpZ P ops Q brk (s1 ++ (true,i) :: s2) C a w → EffY P ops o w (fun v w'=>∃ C':World → Prop,(i ∈ brk ∨ ∀ X,C' X → C X) ∧ C' w' ∧ wpZ P ops Q brk (s1 ++ s2) C' (a.put o.dst v) w') a
  | [],a,_,_,⟨o',h1,h2⟩=>by
    rw [hi] at h1
    injection h1 with h1
    subst h1
    exact h2
  | (true,k) :: s1,a,_,hap,h=>by have:=(hap (true,k) List.mem_cons_self).1; cases this
  | (false,k) :: s1,a,hb,hap,⟨ok,vk,h1,h2,h3⟩=>by
    have hnb:i ∉ brk:=by
      rcases hb with hb | hb
      · cases hb
      · exact hb
    obtain ⟨p1,p2,p3⟩:=Oper.apart_spec ((hap (false,k) List.mem_cons_self).2 ok h1)
    have g:=wpZ_stand hsel hi s2 s1 _ (.inr hnb) (fun k' hk'=>hap k' (List.mem_cons_of_mem _ hk')) h3
    refine EffY.mono (fun v w' ⟨C',c1,c2,c3⟩=>⟨C',c1,c2,ok,vk,h1,((StrC.put (fun cs b=>hsel k ok cs b h1) p3).2 h2).mono (c1.resolve_left hnb),?_⟩) ((EffY.put (fun cs b=>hsel i o cs b hi) p1).1 g)
    rw [← Act.put_comm a vk v p2]
    exact c3
structure LadZAt (P:Program) (ops:Array Oper) (Q:Exit → Act → World → Prop) (brk:List Nat) (l:List (Bool × Nat)) (L:Array Bool) (A:Act) (w:World):Prop where
  size:L.size = ops.size
  closed:Closed ops L
  way:∃ C:World → Prop,C w ∧ wpZ P ops Q brk (lfx L l) C A w
def ladZB (ops:Array Oper) (brk:List Nat) (p q:Bool × Nat):Bool:=ladB ops p q && (!brk.contains q.2 || reachB ops q.2 p.2)
theorem wp_region_ladz {id:Nat} {a:Act} {w:World} (C:World → Prop) (brk:List Nat) (l:List (Bool × Nat)) (hmo:P.follows .mixedOrders = true) (hB:textB ops = true) (hnd:(l.map (·.2)).Nodup) (hcov:∀ i ∈ List.range ops.size,i ∈ l.map (·.2)) (hin:∀ p ∈ l,p.2 < ops.size)
    (hp:l.Pairwise (fun p q=>ladZB ops brk p q = true)) (hC:C w.drew) (h:wpZ P ops Q brk l C a w.drew):(Code.region id ops true).wp P Q a w:=by
  obtain ⟨hsel,htx⟩:=textB_spec hB
  refine wp_region_inv (I:=fun L A X=>LadZAt P ops Q brk l L A X) hmo ?h0 ?hs ?he
  case h0=>
    have hf0:∀ k d,k < ops.size → (Array.replicate ops.size false).getD k d = false:=fun k d hk=>by unfold Array.getD; simp [hk]
    refine ⟨by simp,?_,C,hC,?_⟩
    · intro i o ho hi
      rw [hf0 i _ (Array.getElem?_eq_some_iff.1 ho).1] at hi
      cases hi
    · rw [show lfx (Array.replicate ops.size false) l = l from List.filter_eq_self.2 fun p hpm=>by simp [hf0 p.2 true (hin p hpm)]]
      exact h
  case hs=>
    intro L A X i o hI ho hl hdeps
    have hil:i < ops.size:=(Array.getElem?_eq_some_iff.1 ho).1
    have hsize:(L.setIfInBounds i true).size = ops.size:=by simp [hI.size]
    have hclosed:=hI.closed.step ho hdeps
    have hap:∀ k,edgeB ops k i = true → L.getD k true = false → ∀ ok,ops[k]? = some ok → ok.apart ops o = true:=by
      intro k hed hk ok hok
      rcases edgeB_spec ho hok hed with ⟨e,he,hbe,rfl⟩ | h2
      · have h3:=hdeps e he hbe
        rw [getD_flip hk] at h3
        cases h3
      · exact h2
    have hwt:∀ k,reachB ops i k = true → L.getD k false = true:=fun k hk=>reachB_listed hI.closed i k o ho hdeps hk
    obtain ⟨p,hpl,rfl⟩:=List.mem_map.1 (hcov i (by simpa using hil))
    obtain ⟨r1,r2,s1,s2,s3⟩:=lfx_split hnd hp hpl hl
    have hr1:∀ q ∈ r1,q.1 = false ∧ ∀ ok,ops[q.2]? = some ok → ok.apart ops o = true:=by
      intro q hq
      obtain ⟨t1,t2⟩:=s3 q hq
      unfold ladZB at t1
      rw [Bool.and_eq_true] at t1
      replace t1:=t1.1
      unfold ladB at t1
      cases hb:q.1 with
      | true=>
        rw [hb,if_pos rfl] at t1
        have:=hwt _ t1
        rw [getD_flip t2] at this
        cases this
      | false=>
        rw [hb,if_neg (by simp)] at t1
        exact ⟨rfl,hap q.2 t1 t2⟩
    have hr2:r1 = [] ∨ p.2 ∉ brk:=by
      by_cases hbk:p.2 ∈ brk
      · refine .inl ?_
        cases hr:r1 with
        | nil=>rfl
        | cons q r=>
          exfalso
          obtain ⟨t1,t2⟩:=s3 q (by rw [hr]; exact List.mem_cons_self)
          unfold ladZB at t1
          rw [Bool.and_eq_true,Bool.or_eq_true] at t1
          rcases t1.2 with h9 | h9
          · simp [hbk] at h9
          · have:=hwt _ h9
            rw [getD_flip t2] at this
            cases this
      · exact .inr hbk
    obtain ⟨C1,hC1,hw⟩:=hI.way
    rw [s1] at hw
    obtain ⟨b,i⟩:=p
    cases b with
    | false=>
      obtain ⟨v,g1,g2⟩:=wpZ_float hsel ho r2 r1 A hr1 hw
      exact StrC.wpOp ho hC1 g1 ⟨hsize,hclosed,C1,hC1,by rw [s2]; exact g2⟩
    | true=>exact EffY.wpOp ho (wpZ_stand hsel ho r2 r1 A hr2 hr1 hw) fun v w' ⟨C',c1,c2,c3⟩=>⟨hsize,hclosed,C',c2,by rw [s2]; exact c3⟩
  case he=>
    intro L A X hI hr
    have hall:∀ n k,k < n → k < ops.size → L.getD k false = true:=by
      intro n
      induction n with
      | zero=>intro k hk; omega
      | succ n ih=>
        intro k hk hkn
        cases hv:L.getD k false with
        | true=>rfl
        | false=>
          exfalso
          have ho:ops[k]? = some ops[k]:=Array.getElem?_eq_getElem hkn
          have hmem:k ∈ Region.ready .any ops L:=mem_ready.2 ⟨by rw [← getD_flip' (by rw [hI.size]; omega)]; exact hv,ops[k],ho,fun e he hbe=>ih e.on (by have:=htx k _ ho e he hbe; omega) (by have:=htx k _ ho e he hbe; omega)⟩
          rw [hr] at hmem
          cases hmem
    obtain ⟨C1,hC1,hw⟩:=hI.way
    rw [show lfx L l = [] from List.filter_eq_nil_iff.2 fun p hpm=>by
      have:=hall (p.2 + 1) p.2 (by omega) (hin p hpm)
      rw [getD_flip' (by rw [hI.size]; exact hin p hpm)] at this
      simp [this]] at hw
    exact hw
theorem wpZ_nil {C:World → Prop} {a:Act} {w:World} (h:Q .normal a w):wpZ P ops Q brk [] C a w:=h
theorem wpZ_f {C:World → Prop} {a:Act} {w:World} {i:Nat} {r:List (Bool × Nat)} (o:Oper) (v:Value) (ho:ops[i]? = some o) (hw:Region.wanted o (yielded ops a.tmps) = true) (hr:∀ X,C X → (execOp a.eval o).run P X = .ok (.value v) X) (h:wpZ P ops Q brk r C (a.put o.dst v) w):wpZ P ops Q brk ((false,i) :: r) C a w:=⟨o,v,ho,.inl ⟨hw,hr⟩,h⟩
theorem wpZ_call {C:World → Prop} {a:Act} {w:World} {i:Nat} {r:List (Bool × Nat)} (o:Oper) {f:FuncId} {args:Array Value} (ho:ops[i]? = some o) (hw:Region.wanted o (yielded ops a.tmps) = true) (hr:(execOp a.eval o).run P w = .ok (.enter f args) w)
    (hc:Calls P f args w fun e w'=>∃ v,e = .returned v ∧ ∃ C':World → Prop,(i ∈ brk ∨ ∀ X,C' X → C X) ∧ C' w' ∧ wpZ P ops Q brk r C' (a.put o.dst v) w'):wpZ P ops Q brk ((true,i) :: r) C a w:=⟨o,ho,.inl ⟨hw,by rw [hr]; exact hc⟩⟩
theorem wpZ_to {C:World → Prop} {a:Act} {w:World} {i:Nat} {r:List (Bool × Nat)} (o:Oper) (v:Value) (w':World) (ho:ops[i]? = some o) (hw:Region.wanted o (yielded ops a.tmps) = true) (hr:(execOp a.eval o).run P w = .ok (.value v) w') (C':World → Prop) (h1:i ∈ brk ∨ ∀ X,C' X → C X) (h2:C' w') (h:wpZ P ops Q brk r C' (a.put o.dst v) w'):wpZ P ops Q brk ((true,i) :: r) C a w:=⟨o,ho,.inl ⟨hw,by rw [hr]; exact ⟨C',h1,h2,h⟩⟩⟩
theorem wpZ_st {C:World → Prop} {a:Act} {w:World} {i:Nat} {r:List (Bool × Nat)} (o:Oper) (w':World) (ho:ops[i]? = some o) (hw:Region.wanted o (yielded ops a.tmps) = true) (hr:(execOp a.eval o).run P w = .ok .skip w') (C':World → Prop) (h1:i ∈ brk ∨ ∀ X,C' X → C X) (h2:C' w') (h:wpZ P ops Q brk r C' (a.put o.dst undef) w'):wpZ P ops Q brk ((true,i) :: r) C a w:=⟨o,ho,.inl ⟨hw,by rw [hr]; exact ⟨C',h1,h2,h⟩⟩⟩
end
end Go.Proofs.YtfbmeclpcgdmhabDoor
namespace Go.Proofs.YtfbmeclpcgdmhabDoor
open Go.RowKit Go.BigFrame
set_option linter.unusedVariables false
theorem mm_pa (T M L s lb lc:Nat) (j:Nat) (hj:j < 3):mmV T M L s lb lc (0 + j) = pav (T:Int) (M:Int) (L:Int) j:=by
  rcases (by omega:j = 0 ∨ j = 1 ∨ j = 2) with rfl | rfl | rfl <;> rfl
theorem zA_wrap (ps sl ln tot T j:Nat):IntKind.u64.wrap ((zAV ps sl ln tot T j:Nat):Int) = ((zA ps sl ln tot T j).toNat:Int):=by
  unfold zA zAV
  rw [IntKind.wrap_u64,BitVec.toNat_ofNat]
  omega
def adR (ps sl ln tot T:Nat):Nat → BitVec 64:=if ps = 0 ∧ sl < 2 then adA ps sl ln tot T else zP
set_option maxRecDepth 20000 in
set_option maxHeartbeats 4000000 in
theorem ads_no (B p T M L s lb lc:Nat) (bk:Nat → Nat) (Mw:Nat → BitVec 64) (ps sl ln:Nat) (w:World) (hM:Mm B p T M L s lb lc bk Mw w) (hTM:TabM w) (hp:okP (T:Int) (M:Int) (L:Int)) (hs:s = M / (4 * L)) (ha:¬ (ps = 0 ∧ sl < 2)):Calls Tryd.prog 50 #[.pointer (some ⟨p,0,none⟩),.agg (row 3 (tuV ps sl ln)).toArray] w fun e w'=>e = .returned (.agg (row 128 (wv zP)).toArray) ∧ Ext w w':=by
  replace ha:=hideit ha
  have hE:=hideit (Ext.refl w)
  replace hM:=hideit hM
  replace hTM:=hideit hTM
  go_enter Tryd.func50,Tryd.ntmps50
  go_upto_region 0 with (fail)
  refine wp_region_lit ?_
  have A0:=hideit (RowAt.new w 3 (tuV ps sl ln) 58)
  have XB:Ext w (w.alloc (.cells (row 3 (tuV ps sl ln)).toArray 58)):=(Below.refl _ _).alloc (Nat.le_refl _) _
  have L0:=hideit (hM.out.ext XB)
  have AE:=hideit (Below.alloc hE.out (Below.size hE.out) (.cells (row 3 (tuV ps sl ln)).toArray 58))
  have AB:=hideit (Below.size hE.out)
  clear XB
  refine wpList_to rfl (.pointer (some ⟨w.heap.size,0,none⟩)) (w.alloc (.cells (row 3 (tuV ps sl ln)).toArray 58)) (by simp [go_sem]) ?_
  simp only [jk,jq,jv,jy]
  generalize w.alloc (.cells (row 3 (tuV ps sl ln)).toArray 58) = x2 at A0 L0 AE ⊢
  obtain ⟨z1,ez1⟩:∃ b,b = w.heap.size:=⟨_,rfl⟩
  rw [← ez1] at A0  AB ⊢
  clear ez1
  have Hz1:=A0
  clear A0
  replace hM:=L0
  clear L0
  replace hE:=AE
  clear AE
  have ABz1:=AB
  clear AB
  have A0:=hideit (RowAt.new x2 128 (wv fun _=>0#64) 24)
  have XB:Ext x2 (x2.alloc (.cells (row 128 (wv fun _=>0#64)).toArray 24)):=(Below.refl _ _).alloc (Nat.le_refl _) _
  have A1:=hideit (Hz1.out.alloc (.cells (row 128 (wv fun _=>0#64)).toArray 24))
  have L0:=hideit (hM.out.ext XB)
  have AE:=hideit (Below.alloc hE.out (Below.size hE.out) (.cells (row 128 (wv fun _=>0#64)).toArray 24))
  have AB:=hideit (Below.size hE.out)
  have D0:Hid (z1 ≠ x2.heap.size):=Nat.ne_of_lt Hz1.out.2.2
  clear XB
  refine wpList_to rfl (.pointer (some ⟨x2.heap.size,0,none⟩)) (x2.alloc (.cells (row 128 (wv fun _=>0#64)).toArray 24)) (xalloc 24 _ rfl (zero31p _)) ?_
  simp only [jk,jq,jv,jy]
  generalize x2.alloc (.cells (row 128 (wv fun _=>0#64)).toArray 24) = x4 at A0 A1 L0 AE ⊢
  obtain ⟨z3,ez3⟩:∃ b,b = x2.heap.size:=⟨_,rfl⟩
  rw [← ez3] at A0 D0 AB ⊢
  clear ez3
  have Hz3:=A0
  clear A0
  replace Hz1:=A1
  clear A1
  replace hM:=L0
  clear L0
  replace hE:=AE
  clear AE
  have ABz3:=AB
  clear AB
  have Dz3_0:=D0
  clear D0
  go_upto_region 1 with (fail)
  refine wp_region_lit ?_
  have A0:=hideit (RowAt.new x4 128 (wv fun _=>0#64) 24)
  have XB:Ext x4 (x4.alloc (.cells (row 128 (wv fun _=>0#64)).toArray 24)):=(Below.refl _ _).alloc (Nat.le_refl _) _
  have A1:=hideit (Hz1.out.alloc (.cells (row 128 (wv fun _=>0#64)).toArray 24))
  have A2:=hideit (Hz3.out.alloc (.cells (row 128 (wv fun _=>0#64)).toArray 24))
  have L0:=hideit (hM.out.ext XB)
  have AE:=hideit (Below.alloc hE.out (Below.size hE.out) (.cells (row 128 (wv fun _=>0#64)).toArray 24))
  have AB:=hideit (Below.size hE.out)
  have D0:Hid (z1 ≠ x4.heap.size):=Nat.ne_of_lt Hz1.out.2.2
  have D1:Hid (z3 ≠ x4.heap.size):=Nat.ne_of_lt Hz3.out.2.2
  clear XB
  refine wpList_to rfl (.pointer (some ⟨x4.heap.size,0,none⟩)) (x4.alloc (.cells (row 128 (wv fun _=>0#64)).toArray 24)) (xalloc 24 _ rfl (zero31p _)) ?_
  simp only [jk,jq,jv,jy]
  generalize x4.alloc (.cells (row 128 (wv fun _=>0#64)).toArray 24) = x6 at A0 A1 A2 L0 AE ⊢
  obtain ⟨z5,ez5⟩:∃ b,b = x4.heap.size:=⟨_,rfl⟩
  rw [← ez5] at A0 D0 D1 AB ⊢
  clear ez5
  have Hz5:=A0
  clear A0
  replace Hz1:=A1
  clear A1
  replace Hz3:=A2
  clear A2
  replace hM:=L0
  clear L0
  replace hE:=AE
  clear AE
  have ABz5:=AB
  clear AB
  have Dz5_0:=D0
  clear D0
  have Dz5_1:=D1
  clear D1
  have A0:=hideit (RowAt.new x6 128 (wv fun _=>0#64) 24)
  have XB:Ext x6 (x6.alloc (.cells (row 128 (wv fun _=>0#64)).toArray 24)):=(Below.refl _ _).alloc (Nat.le_refl _) _
  have A1:=hideit (Hz1.out.alloc (.cells (row 128 (wv fun _=>0#64)).toArray 24))
  have A2:=hideit (Hz3.out.alloc (.cells (row 128 (wv fun _=>0#64)).toArray 24))
  have A3:=hideit (Hz5.out.alloc (.cells (row 128 (wv fun _=>0#64)).toArray 24))
  have L0:=hideit (hM.out.ext XB)
  have AE:=hideit (Below.alloc hE.out (Below.size hE.out) (.cells (row 128 (wv fun _=>0#64)).toArray 24))
  have AB:=hideit (Below.size hE.out)
  have D0:Hid (z1 ≠ x6.heap.size):=Nat.ne_of_lt Hz1.out.2.2
  have D1:Hid (z3 ≠ x6.heap.size):=Nat.ne_of_lt Hz3.out.2.2
  have D2:Hid (z5 ≠ x6.heap.size):=Nat.ne_of_lt Hz5.out.2.2
  clear XB
  refine wpList_to rfl (.pointer (some ⟨x6.heap.size,0,none⟩)) (x6.alloc (.cells (row 128 (wv fun _=>0#64)).toArray 24)) (xalloc 24 _ rfl (zero31p _)) ?_
  simp only [jk,jq,jv,jy]
  generalize x6.alloc (.cells (row 128 (wv fun _=>0#64)).toArray 24) = x8 at A0 A1 A2 A3 L0 AE ⊢
  obtain ⟨z7,ez7⟩:∃ b,b = x6.heap.size:=⟨_,rfl⟩
  rw [← ez7] at A0 D0 D1 D2 AB ⊢
  clear ez7
  have Hz7:=A0
  clear A0
  replace Hz1:=A1
  clear A1
  replace Hz3:=A2
  clear A2
  replace Hz5:=A3
  clear A3
  replace hM:=L0
  clear L0
  replace hE:=AE
  clear AE
  have ABz7:=AB
  clear AB
  have Dz7_0:=D0
  clear D0
  have Dz7_1:=D1
  clear D1
  have Dz7_2:=D2
  clear D2
  go_upto_region 2 with (fail)
  refine wp_region_lit ?_
  refine wpList_run rfl (.agg (row 3 (tuV ps sl ln)).toArray) (xload 58 (.tmp 3) rfl z1 0 3 _ rfl Hz1.out.range Tryd.underlying58 rfl infoTu) ?_
  simp only [jk,jq,jv,jy]
  refine wpList_call rfl (by simp [go_sem]) ((adr_any ps sl ln x8 false (decide_eq_false ha.out).symm).mono ?_)
  rintro e y9 ⟨rfl,hX10⟩
  refine ⟨_,rfl,?_⟩
  simp only [jk,jq,jv,jy]
  replace Hz1:=hideit (Hz1.out.carry hX10)
  replace Hz3:=hideit (Hz3.out.carry hX10)
  replace Hz5:=hideit (Hz5.out.carry hX10)
  replace Hz7:=hideit (Hz7.out.carry hX10)
  replace hM:=hideit (hM.out.ext hX10)
  replace hE:=hideit (Ext.trans hE.out hX10)
  clear hX10
  refine xm [some (.bool true)] (by kernel_rfl) (by simp [xr,go_sem]) ?_
  simp only [xw,p0,p1,p2,p3]
  go_upto_region 3 with (fail)
  refine wp_region_lit ?_
  refine wpList_run rfl (.agg (row 128 (wv fun _=>0#64)).toArray) (xload 24 (.tmp 6) rfl z7 0 128 _ rfl Hz7.out.range Tryd.underlying24 rfl infoPg) ?_
  simp only [jk,jq,jv,jy]
  have N0:=hideit (Hz3.out.cells (g':=wv fun _=>0#64))
  have N1:=hideit (Hz1.out.cellsOther (Ne.symm (Dz3_0.out)) (row 128 (wv fun _=>0#64)) 0)
  have N2:=hideit (Hz5.out.cellsOther (Dz5_1.out) (row 128 (wv fun _=>0#64)) 0)
  have N3:=hideit (Hz7.out.cellsOther (Dz7_1.out) (row 128 (wv fun _=>0#64)) 0)
  have NE:=hideit (below_setCells z3 (ABz3.out) (row 128 (wv fun _=>0#64)) 0 _ hE.out)
  refine xst rfl (y9.setCells z3 0 (row 128 (wv fun _=>0#64))) (xstore 24 (.tmp 4) (.tmp 12) rfl z3 128 _ (wv fun _=>0#64) rfl rfl Hz3.out infoPg (fun _ _=>rfl)) ?_
  simp only [Act.put]
  generalize y9.setCells z3 0 (row 128 (wv fun _=>0#64)) = x11 at N0 N1 N2 N3 NE ⊢
  replace Hz3:=N0
  replace Hz1:=N1
  replace Hz5:=N2
  replace Hz7:=N3
  replace hE:=NE
  clear N0 N1 N2 N3 NE
  go_wp2
  exact bodyPost_ret (ret_row Tryd.results50 rfl Hz3.out Tryd.underlying24 rfl infoPg) rfl ⟨rfl,hE.out⟩
set_option maxRecDepth 20000 in
set_option maxHeartbeats 4000000 in
theorem ads_yes (B p T M L s lb lc:Nat) (bk:Nat → Nat) (Mw:Nat → BitVec 64) (ps sl ln:Nat) (w:World) (hM:Mm B p T M L s lb lc bk Mw w) (hTM:TabM w) (hp:okP (T:Int) (M:Int) (L:Int)) (hs:s = M / (4 * L)) (ha:ps = 0 ∧ sl < 2):Calls Tryd.prog 50 #[.pointer (some ⟨p,0,none⟩),.agg (row 3 (tuV ps sl ln)).toArray] w fun e w'=>e = .returned (.agg (row 128 (wv (adA ps sl ln (4 * s * L) T))).toArray) ∧ Ext w w':=by
  replace ha:=hideit ha
  replace hp:=hideit hp
  obtain ⟨tot,ht⟩:∃ t,t = 4 * s * L:=⟨_,rfl⟩
  have htot:Hid (4 * (M / (4 * L)) * L = tot):=by rw [← hs,ht]; exact rfl
  rw [← ht]
  clear ht hs
  have hE:=hideit (Ext.refl w)
  replace hM:=hideit hM
  replace hTM:=hideit hTM
  go_enter Tryd.func50,Tryd.ntmps50
  go_upto_region 0 with (fail)
  refine wp_region_lit ?_
  have A0:=hideit (RowAt.new w 3 (tuV ps sl ln) 58)
  have XB:Ext w (w.alloc (.cells (row 3 (tuV ps sl ln)).toArray 58)):=(Below.refl _ _).alloc (Nat.le_refl _) _
  have L0:=hideit (hM.out.ext XB)
  have AE:=hideit (Below.alloc hE.out (Below.size hE.out) (.cells (row 3 (tuV ps sl ln)).toArray 58))
  have AB:=hideit (Below.size hE.out)
  clear XB
  refine wpList_to rfl (.pointer (some ⟨w.heap.size,0,none⟩)) (w.alloc (.cells (row 3 (tuV ps sl ln)).toArray 58)) (by simp [go_sem]) ?_
  simp only [jk,jq,jv,jy]
  generalize w.alloc (.cells (row 3 (tuV ps sl ln)).toArray 58) = x2 at A0 L0 AE ⊢
  obtain ⟨z1,ez1⟩:∃ b,b = w.heap.size:=⟨_,rfl⟩
  rw [← ez1] at A0  AB ⊢
  clear ez1
  have Hz1:=A0
  clear A0
  replace hM:=L0
  clear L0
  replace hE:=AE
  clear AE
  have ABz1:=AB
  clear AB
  have A0:=hideit (RowAt.new x2 128 (wv fun _=>0#64) 24)
  have XB:Ext x2 (x2.alloc (.cells (row 128 (wv fun _=>0#64)).toArray 24)):=(Below.refl _ _).alloc (Nat.le_refl _) _
  have A1:=hideit (Hz1.out.alloc (.cells (row 128 (wv fun _=>0#64)).toArray 24))
  have L0:=hideit (hM.out.ext XB)
  have AE:=hideit (Below.alloc hE.out (Below.size hE.out) (.cells (row 128 (wv fun _=>0#64)).toArray 24))
  have AB:=hideit (Below.size hE.out)
  have D0:Hid (z1 ≠ x2.heap.size):=Nat.ne_of_lt Hz1.out.2.2
  clear XB
  refine wpList_to rfl (.pointer (some ⟨x2.heap.size,0,none⟩)) (x2.alloc (.cells (row 128 (wv fun _=>0#64)).toArray 24)) (xalloc 24 _ rfl (zero31p _)) ?_
  simp only [jk,jq,jv,jy]
  generalize x2.alloc (.cells (row 128 (wv fun _=>0#64)).toArray 24) = x4 at A0 A1 L0 AE ⊢
  obtain ⟨z3,ez3⟩:∃ b,b = x2.heap.size:=⟨_,rfl⟩
  rw [← ez3] at A0 D0 AB ⊢
  clear ez3
  have Hz3:=A0
  clear A0
  replace Hz1:=A1
  clear A1
  replace hM:=L0
  clear L0
  replace hE:=AE
  clear AE
  have ABz3:=AB
  clear AB
  have Dz3_0:=D0
  clear D0
  go_upto_region 1 with (fail)
  refine wp_region_lit ?_
  have A0:=hideit (RowAt.new x4 128 (wv fun _=>0#64) 24)
  have XB:Ext x4 (x4.alloc (.cells (row 128 (wv fun _=>0#64)).toArray 24)):=(Below.refl _ _).alloc (Nat.le_refl _) _
  have A1:=hideit (Hz1.out.alloc (.cells (row 128 (wv fun _=>0#64)).toArray 24))
  have A2:=hideit (Hz3.out.alloc (.cells (row 128 (wv fun _=>0#64)).toArray 24))
  have L0:=hideit (hM.out.ext XB)
  have AE:=hideit (Below.alloc hE.out (Below.size hE.out) (.cells (row 128 (wv fun _=>0#64)).toArray 24))
  have AB:=hideit (Below.size hE.out)
  have D0:Hid (z1 ≠ x4.heap.size):=Nat.ne_of_lt Hz1.out.2.2
  have D1:Hid (z3 ≠ x4.heap.size):=Nat.ne_of_lt Hz3.out.2.2
  clear XB
  refine wpList_to rfl (.pointer (some ⟨x4.heap.size,0,none⟩)) (x4.alloc (.cells (row 128 (wv fun _=>0#64)).toArray 24)) (xalloc 24 _ rfl (zero31p _)) ?_
  simp only [jk,jq,jv,jy]
  generalize x4.alloc (.cells (row 128 (wv fun _=>0#64)).toArray 24) = x6 at A0 A1 A2 L0 AE ⊢
  obtain ⟨z5,ez5⟩:∃ b,b = x4.heap.size:=⟨_,rfl⟩
  rw [← ez5] at A0 D0 D1 AB ⊢
  clear ez5
  have Hz5:=A0
  clear A0
  replace Hz1:=A1
  clear A1
  replace Hz3:=A2
  clear A2
  replace hM:=L0
  clear L0
  replace hE:=AE
  clear AE
  have ABz5:=AB
  clear AB
  have Dz5_0:=D0
  clear D0
  have Dz5_1:=D1
  clear D1
  have A0:=hideit (RowAt.new x6 128 (wv fun _=>0#64) 24)
  have XB:Ext x6 (x6.alloc (.cells (row 128 (wv fun _=>0#64)).toArray 24)):=(Below.refl _ _).alloc (Nat.le_refl _) _
  have A1:=hideit (Hz1.out.alloc (.cells (row 128 (wv fun _=>0#64)).toArray 24))
  have A2:=hideit (Hz3.out.alloc (.cells (row 128 (wv fun _=>0#64)).toArray 24))
  have A3:=hideit (Hz5.out.alloc (.cells (row 128 (wv fun _=>0#64)).toArray 24))
  have L0:=hideit (hM.out.ext XB)
  have AE:=hideit (Below.alloc hE.out (Below.size hE.out) (.cells (row 128 (wv fun _=>0#64)).toArray 24))
  have AB:=hideit (Below.size hE.out)
  have D0:Hid (z1 ≠ x6.heap.size):=Nat.ne_of_lt Hz1.out.2.2
  have D1:Hid (z3 ≠ x6.heap.size):=Nat.ne_of_lt Hz3.out.2.2
  have D2:Hid (z5 ≠ x6.heap.size):=Nat.ne_of_lt Hz5.out.2.2
  clear XB
  refine wpList_to rfl (.pointer (some ⟨x6.heap.size,0,none⟩)) (x6.alloc (.cells (row 128 (wv fun _=>0#64)).toArray 24)) (xalloc 24 _ rfl (zero31p _)) ?_
  simp only [jk,jq,jv,jy]
  generalize x6.alloc (.cells (row 128 (wv fun _=>0#64)).toArray 24) = x8 at A0 A1 A2 A3 L0 AE ⊢
  obtain ⟨z7,ez7⟩:∃ b,b = x6.heap.size:=⟨_,rfl⟩
  rw [← ez7] at A0 D0 D1 D2 AB ⊢
  clear ez7
  have Hz7:=A0
  clear A0
  replace Hz1:=A1
  clear A1
  replace Hz3:=A2
  clear A2
  replace Hz5:=A3
  clear A3
  replace hM:=L0
  clear L0
  replace hE:=AE
  clear AE
  have ABz7:=AB
  clear AB
  have Dz7_0:=D0
  clear D0
  have Dz7_1:=D1
  clear D1
  have Dz7_2:=D2
  clear D2
  go_upto_region 2 with (fail)
  refine wp_region_lit ?_
  refine wpList_run rfl (.agg (row 3 (tuV ps sl ln)).toArray) (xload 58 (.tmp 3) rfl z1 0 3 _ rfl Hz1.out.range Tryd.underlying58 rfl infoTu) ?_
  simp only [jk,jq,jv,jy]
  refine wpList_call rfl (by simp [go_sem]) ((adr_any ps sl ln x8 true (decide_eq_true ha.out).symm).mono ?_)
  rintro e y9 ⟨rfl,hX10⟩
  refine ⟨_,rfl,?_⟩
  simp only [jk,jq,jv,jy]
  replace Hz1:=hideit (Hz1.out.carry hX10)
  replace Hz3:=hideit (Hz3.out.carry hX10)
  replace Hz5:=hideit (Hz5.out.carry hX10)
  replace Hz7:=hideit (Hz7.out.carry hX10)
  replace hM:=hideit (hM.out.ext hX10)
  replace hE:=hideit (Ext.trans hE.out hX10)
  clear hX10
  refine xm [some (.bool false)] (by kernel_rfl) (by simp [xr,go_sem]) ?_
  simp only [xw,p0,p1,p2,p3]
  have HP:=hideit hM.out.rc
  have e7:(row 7 fun i=>Value.int .i64 ((zAV ps sl ln tot T i:Nat):Int)).toArray = #[.int .i64 (ps:Int),.int .i64 (ln:Int),.int .i64 (sl:Int),.int .i64 (tot:Int),.int .i64 (T:Int),.int .i64 2,.int .i64 1]:=rfl
  go_upto_region 4 with (fail)
  replace Hz1:=hideit Hz1.out.drew
  replace Hz3:=hideit Hz3.out.drew
  replace Hz5:=hideit Hz5.out.drew
  replace Hz7:=hideit Hz7.out.drew
  replace HP:=hideit HP.out.drew
  replace hM:=hideit (hM.out.ext (Ext.draw (Ext.refl y9)))
  replace hE:=hideit (Ext.draw hE.out)
  refine wp_region_lad (fun X=>Ext y9.drew X) [(false,0),(false,1),(false,2),(false,3),(false,4),(false,5),(false,6),(false,7),(false,8),(false,9),(false,11),(false,12),(false,13),(false,14),(false,15),(false,17),(true,10),(false,16)] (by kernel_rfl) (by kernel_rfl) (by decide +kernel) (by decide +kernel) (by decide +kernel) (by decide +kernel) (Ext.refl _) ?_
  refine wpX_f _ (.pointer (some ⟨z1,0,none⟩)) rfl rfl (fun X _=>by simp [go_sem]) ?_
  simp only [List.getElem_toArray,List.getElem_cons_zero,Act.put,List.setIfInBounds_toArray,List.set_cons_zero,List.set_cons_succ]
  refine wpX_f _ (.int .i64 (ps:Int)) rfl rfl (fun X hX=>by have m11:X.cell? ⟨z1,0,none⟩ = some (.int .i64 (ps:Int)):=(Hz1.out.carry hX).1 0 (by decide); simp [go_sem,m11]) ?_
  simp only [jw,jz,kj,jk,jq,jv,jy]
  refine wpX_f _ (.pointer (some ⟨z1,2,none⟩)) rfl rfl (fun X _=>by simp [go_sem]) ?_
  simp only [jw,jz,kj,jk,jq,jv,jy]
  refine wpX_f _ (.int .i64 (ln:Int)) rfl rfl (fun X hX=>by have m12:X.cell? ⟨z1,2,none⟩ = some (.int .i64 (ln:Int)):=(Hz1.out.carry hX).1 2 (by decide); simp [go_sem,m12]) ?_
  simp only [jw,jz,kj,jk,jq,jv,jy]
  refine wpX_f _ (.pointer (some ⟨z1,1,none⟩)) rfl rfl (fun X _=>by simp [go_sem]) ?_
  simp only [jw,jz,kj,jk,jq,jv,jy]
  refine wpX_f _ (.int .i64 (sl:Int)) rfl rfl (fun X hX=>by have m13:X.cell? ⟨z1,1,none⟩ = some (.int .i64 (sl:Int)):=(Hz1.out.carry hX).1 1 (by decide); simp [go_sem,m13]) ?_
  simp only [jw,jz,kj,jk,jq,jv,jy]
  refine wpX_f _ (.pointer (some ⟨p,0,none⟩)) rfl rfl (fun X _=>by simp [go_sem]) ?_
  simp only [jw,jz,kj,jk,jq,jv,jy]
  refine wpX_f _ (.pointer (some ⟨p,0,none⟩)) rfl rfl (fun X _=>by simp [go_sem]) ?_
  simp only [jw,jz,kj,jk,jq,jv,jy]
  refine wpX_f _ (.pointer (some ⟨p,0,none⟩)) rfl rfl (fun X _=>by simp [go_sem]) ?_
  simp only [jw,jz,kj,jk,jq,jv,jy]
  refine wpX_f _ (.agg (row 3 (pav (T:Int) (M:Int) (L:Int))).toArray) rfl rfl (fun X hX=>xload 31 (.tmp 21) rfl p 0 3 (pav (T:Int) (M:Int) (L:Int)) rfl ((HP.out.carry hX).sub 0 3 (by decide) (pav (T:Int) (M:Int) (L:Int)) (fun j hj=>mm_pa T M L s lb lc j hj)) Tryd.underlying31 rfl infoPa) ?_
  simp only [jw,jz,kj,jk,jq,jv,jy]
  refine wpX_f _ (.pointer (some ⟨p,0,none⟩)) rfl rfl (fun X _=>by simp [go_sem]) ?_
  simp only [jw,jz,kj,jk,jq,jv,jy]
  refine wpX_f _ (.pointer (some ⟨p,0,none⟩)) rfl rfl (fun X _=>by simp [go_sem]) ?_
  simp only [jw,jz,kj,jk,jq,jv,jy]
  refine wpX_f _ (.pointer (some ⟨p,0,none⟩)) rfl rfl (fun X _=>by simp [go_sem]) ?_
  simp only [jw,jz,kj,jk,jq,jv,jy]
  refine wpX_f _ (.pointer (some ⟨p,0,none⟩)) rfl rfl (fun X _=>by simp [go_sem]) ?_
  simp only [jw,jz,kj,jk,jq,jv,jy]
  refine wpX_f _ (.int .i64 (T:Int)) rfl rfl (fun X hX=>by have m14:X.cell? ⟨p,0,none⟩ = some (.int .i64 (T:Int)):=(HP.out.carry hX).1 0 (by decide); simp [go_sem,m14]) ?_
  simp only [jw,jz,kj,jk,jq,jv,jy]
  refine wpX_f _ (.int .i64 0) rfl rfl (fun X _=>by simp [go_sem]) ?_
  simp only [jw,jz,kj,jk,jq,jv,jy]
  refine wpX_call _ rfl rfl (by simp [go_sem]) ((pages_ok T M L y9.drew hp.out).mono ?_)
  rintro e y15 ⟨rfl,hX16⟩
  refine ⟨_,rfl,fun X=>Ext y15 X,fun X hX=>Ext.trans hX16 hX,Ext.refl _,?_⟩
  simp only [jw,jz,kj,jk,jq,jv,jy]
  replace Hz1:=hideit (Hz1.out.carry hX16)
  replace Hz3:=hideit (Hz3.out.carry hX16)
  replace Hz5:=hideit (Hz5.out.carry hX16)
  replace Hz7:=hideit (Hz7.out.carry hX16)
  replace HP:=hideit (HP.out.carry hX16)
  replace hM:=hideit (hM.out.ext hX16)
  replace hE:=hideit (Ext.trans hE.out hX16)
  rw [htot.out]
  clear hX16
  refine wpX_f _ (.agg (row 7 fun i=>Value.int .i64 ((zAV ps sl ln tot T i:Nat):Int)).toArray) rfl rfl (fun X _=>by simp [go_sem,e7]) ?_
  simp only [jw,jz,kj,jk,jq,jv,jy]
  refine wpX_nil ?_
  clear e7 HP Hz1
  obtain ⟨A7,hA7⟩:∃ A,A = Value.agg (row 7 fun i=>Value.int .i64 ((zAV ps sl ln tot T i:Nat):Int)).toArray:=⟨_,rfl⟩
  have ix:Hid (∀ j:Nat,j < 7 → ∀ X:World,(Instr.index 99 A7 (.int .i64 (j:Int))).run Tryd.prog X = .ok (.int .i64 ((zAV ps sl ln tot T j:Nat):Int)) X):=hideit fun j hj X=>by rw [hA7]; exact idx7 _ j hj X
  rw [← hA7]
  clear hA7
  go_upto_region 5 with (fail)
  go_loopw [30] (fun i X=>∃ j:Nat,j ≤ 7 ∧ i = .int .i64 (j:Int) ∧ RowAt z5 128 (wv (zAK ps sl ln tot T j)) X ∧ RowAt z3 128 (wv fun _=>0#64) X ∧ RowAt z7 128 (wv fun _=>0#64) X ∧ Ext w X) (fun i _=>100 - (intOf i).toNat)
  case atStart=>exact ⟨0,Nat.zero_le _,rfl,Hz5.out.congr (fun j _=>by unfold wv zAK; rw [if_neg (Nat.not_lt_zero _)]),Hz3.out,Hz7.out,hE.out⟩
  case round=>
    clear Hz5 Hz3 Hz7 hE
    obtain ⟨j,hj,rfl,Hz,Hr,Ho,hE⟩:=hrel
    replace Hz:=hideit Hz
    replace Hr:=hideit Hr
    replace Ho:=hideit Ho
    replace hE:=hideit hE
    by_cases hlt:j < 7
    · have k1:(j:Int) < 7:=by omega
      have k2:(j:Int) < 128:=by omega
      have ek:IntKind.i64.wrap ((j:Int) + 1) = ((j + 1:Nat):Int):=by rw [IntKind.wrap_i64]; omega
      have ixj:=ix.out j hlt
      have cw:=zA_wrap ps sl ln tot T j
      obtain ⟨zv,hzv⟩:∃ v,v = zAV ps sl ln tot T j:=⟨_,rfl⟩
      obtain ⟨zb,hzb⟩:∃ v,v = zA ps sl ln tot T j:=⟨_,rfl⟩
      rw [← hzv] at ixj cw
      rw [← hzb] at cw
      replace hzv:=hideit hzv
      replace hzb:=hideit hzb
      go_upto_region 5 with (fail)
      refine wp_region_lit ?_
      refine xm [some (.bool true)] (by kernel_rfl) (by simp [xr,go_sem,k1]) ?_
      simp only [xw,p0,p1,p2,p3]
      go_upto_region 6 with (fail)
      refine wp_region_lit ?_
      refine xm [some (.int .i64 (j:Int))] (by kernel_rfl) (by simp [xr,go_sem]) ?_
      simp only [xw,p0,p1,p2,p3]
      refine wpList_run rfl (.int .i64 (zv:Int)) (xindex 99 (.tmp 29) (.tmp 30) rfl A7 _ j rfl rfl (ixj _)) ?_
      simp only [jk,jq,jv,jy]
      refine xm [some (.int .i64 (j:Int)),some (.int .i64 (zv:Int))] (by kernel_rfl) (by simp [xr,go_sem]) ?_
      simp only [xw,p0,p1,p2,p3]
      go_upto_region 7 with (fail)
      refine wp_region_lit ?_
      refine xm [some (.int .i64 (j:Int)),some (.int .i64 (zv:Int)),some (.int .u64 (zb.toNat:Int)),some (.pointer (some ⟨z5,j,none⟩))] (by kernel_rfl) (by simp [xr,go_sem,cw,k2]) ?_
      simp only [xw,p0,p1,p2,p3]
      have M0:wr.cell? ⟨z5,j,none⟩ = some (wv (zAK ps sl ln tot T j) j):=Hz.out.1 j (by omega)
      have M1:wr.frozen? ⟨z5,j,none⟩ = false:=Hz.out.2.1 j (by omega)
      have N0:Hid (RowAt z5 128 (wv (zAK ps sl ln tot T (j + 1))) (wr.setCell ⟨z5,j,none⟩ (.int .u64 (zb.toNat:Int)))):=(Hz.out.set j (.int .u64 (zb.toNat:Int))).congr fun i hi=>by
        unfold wv zAK
        by_cases e:i = j
        · rw [if_pos e,if_pos (by omega),e,← hzb.out]
        · rw [if_neg e]
          by_cases e2:i < j
          · rw [if_pos e2,if_pos (by omega)]
          · rw [if_neg e2,if_neg (by omega)]
      have N1:=hideit (Hr.out.other ⟨z5,j,none⟩ (.int .u64 (zb.toNat:Int)) (Ne.symm (Dz5_1.out)))
      have N2:=hideit (Ho.out.other ⟨z5,j,none⟩ (.int .u64 (zb.toNat:Int)) (Dz7_2.out))
      have NE:=hideit (hE.out.setCell (p:=⟨z5,j,none⟩) (ABz5.out) (.int .u64 (zb.toNat:Int)))
      refine xst rfl (wr.setCell ⟨z5,j,none⟩ (.int .u64 (zb.toNat:Int))) (by simp [go_sem,M0,M1]) ?_
      simp only [Act.put]
      generalize wr.setCell ⟨z5,j,none⟩ (.int .u64 (zb.toNat:Int)) = x9 at N0 N1 N2 NE ⊢
      clear M0 M1 Hz Hr Ho hE
      go_upto_region 8 with (fail)
      refine wp_region_lit ?_
      refine xm [some (.int .i64 ((j + 1:Nat):Int)),some (.int .i64 ((j + 1:Nat):Int))] (by kernel_rfl) (by simp [xr,go_sem,ek]) ?_
      simp only [xw,p0,p1,p2,p3]
      go_wp2
      exact ⟨⟨j + 1,by omega,rfl,N0.out,N1.out,N2.out,NE.out⟩,by simp [intOf]; omega⟩
    · obtain rfl:j = 7:=by omega
      rw [zAK_end] at Hz
      have hT2:=hideit (hTM.out.ext hE.out)
      clear ix
      go_upto_region 5 with (fail)
      refine wp_region_lit ?_
      refine xm [some (.bool false)] (by kernel_rfl) (by simp [xr,go_sem]) ?_
      simp only [xw,p0,p1,p2,p3]
      go_upto_region 9 with (fail)
      replace Hr:=hideit Hr.out.drew
      replace Hz:=hideit Hz.out.drew
      replace Ho:=hideit Ho.out.drew
      replace hT2:=hideit (hT2.out.ext (Ext.draw (Ext.refl wr)))
      replace hE:=hideit (Ext.draw hE.out)
      refine wp_region_ladz (fun X=>Ext wr.drew X) [5] [(false,0),(false,1),(false,2),(true,3),(true,4),(true,5)] (by kernel_rfl) (by kernel_rfl) (by decide +kernel) (by decide +kernel) (by decide +kernel) (by decide +kernel) (Ext.refl _) ?_
      refine wpZ_f _ (.agg (row 128 (wv fun _=>0#64)).toArray) rfl rfl (fun X hX=>xload 24 (.tmp 6) rfl z7 0 128 _ rfl (Ho.out.carry hX).range Tryd.underlying24 rfl infoPg) ?_
      simp only [List.getElem_toArray,List.getElem_cons_zero,Act.put,List.setIfInBounds_toArray,List.set_cons_zero,List.set_cons_succ]
      refine wpZ_f _ (.agg (row 128 (wv fun _=>0#64)).toArray) rfl rfl (fun X hX=>xload 24 (.tmp 6) rfl z7 0 128 _ rfl (Ho.out.carry hX).range Tryd.underlying24 rfl infoPg) ?_
      simp only [jw,jz,kj,jk,jq,jv,jy]
      refine wpZ_f _ (.agg (row 128 (wv (zA ps sl ln tot T))).toArray) rfl rfl (fun X hX=>xload 24 (.tmp 5) rfl z5 0 128 _ rfl (Hz.out.carry hX).range Tryd.underlying24 rfl infoPg) ?_
      simp only [jw,jz,kj,jk,jq,jv,jy]
      refine wpZ_call _ rfl rfl (by simp [go_sem]) ((pages_any (fun _=>0#64) (zA ps sl ln tot T) wr.drew hT2.out).mono ?_)
      rintro e y17 ⟨rfl,hX18⟩
      refine ⟨_,rfl,fun X=>Ext y17 X,.inr (fun X hX=>Ext.trans hX18 hX),Ext.refl _,?_⟩
      simp only [jw,jz,kj,jk,jq,jv,jy]
      replace Hr:=hideit (Hr.out.carry hX18)
      replace Hz:=hideit (Hz.out.carry hX18)
      replace Ho:=hideit (Ho.out.carry hX18)
      replace hT2:=hideit (hT2.out.ext hX18)
      replace hE:=hideit (Ext.trans hE.out hX18)
      clear hX18
      refine wpZ_call _ rfl rfl (by simp [go_sem]) ((pages_any (fun _=>0#64) (pagesF (fun _=>0#64) (zA ps sl ln tot T)) y17 hT2.out).mono ?_)
      rintro e y19 ⟨rfl,hX20⟩
      refine ⟨_,rfl,fun X=>Ext y19 X,.inr (fun X hX=>Ext.trans hX20 hX),Ext.refl _,?_⟩
      simp only [jw,jz,kj,jk,jq,jv,jy]
      replace Hr:=hideit (Hr.out.carry hX20)
      replace Hz:=hideit (Hz.out.carry hX20)
      replace Ho:=hideit (Ho.out.carry hX20)
      replace hT2:=hideit (hT2.out.ext hX20)
      replace hE:=hideit (Ext.trans hE.out hX20)
      clear hX20
      have N0:=hideit (Hr.out.cells (g':=wv (pagesF (fun _=>0#64) (pagesF (fun _=>0#64) (zA ps sl ln tot T)))))
      have N1:=hideit (Hz.out.cellsOther (Dz5_1.out) (row 128 (wv (pagesF (fun _=>0#64) (pagesF (fun _=>0#64) (zA ps sl ln tot T))))) 0)
      have N2:=hideit (Ho.out.cellsOther (Dz7_1.out) (row 128 (wv (pagesF (fun _=>0#64) (pagesF (fun _=>0#64) (zA ps sl ln tot T))))) 0)
      have NE:=hideit (below_setCells z3 (ABz3.out) (row 128 (wv (pagesF (fun _=>0#64) (pagesF (fun _=>0#64) (zA ps sl ln tot T))))) 0 _ hE.out)
      refine wpZ_st _ (y19.setCells z3 0 (row 128 (wv (pagesF (fun _=>0#64) (pagesF (fun _=>0#64) (zA ps sl ln tot T)))))) rfl rfl (xstore 24 (.tmp 4) (.tmp 43) rfl z3 128 _ (wv (pagesF (fun _=>0#64) (pagesF (fun _=>0#64) (zA ps sl ln tot T)))) rfl rfl Hr.out infoPg (fun _ _=>rfl)) (fun _=>True) (.inl (by simp)) trivial ?_
      simp only [List.getElem_toArray,List.getElem_cons_zero,List.getElem_cons_succ,Act.put]
      generalize y19.setCells z3 0 (row 128 (wv (pagesF (fun _=>0#64) (pagesF (fun _=>0#64) (zA ps sl ln tot T))))) = x21 at N0 N1 N2 NE ⊢
      replace Hr:=N0
      replace Hz:=N1
      replace Ho:=N2
      replace hE:=NE
      clear N0 N1 N2 NE
      refine wpZ_nil ?_
      go_wp2
      exact bodyPost_ret (ret_row Tryd.results50 rfl Hr.out Tryd.underlying24 rfl infoPg) rfl ⟨rfl,hE.out⟩
end Go.Proofs.YtfbmeclpcgdmhabDoor
