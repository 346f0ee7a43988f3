/-
  The orders of the rounds; the first words. A law for regions that draw their order, in which one block is made: operations that only read and calls stand anywhere, the block's value and content hang on the frame, the late operations behind them all.
-/
import Derived.Test.YtfbmeclpcgdmhabDoorQk1
import Derived.Test.YtfbmeclpcgdmhabDoorQk5
import Derived.Test.YtfbmeclpcgdmhabDoorQk6
import Derived.Deep.MidRow
import Derived.Lib.SmallJoins
import Derived.Test.YtfbmeclpcgdmhabDoorQk4
namespace Go.Proofs.YtfbmeclpcgdmhabDoor
open Go.RowKit Go.BigFrame
def iv (f:Nat → Nat):Nat → Value:=fun j=>.int .i64 ((f j:Nat):Int)
def ordL:List Nat := [0,1,2,3,4,5,6,7,8,9,10,11,12,13,14,15,14,10,4,8,9,15,13,6,1,12,0,2,11,7,5,3,11,8,12,0,5,2,15,13,10,14,3,6,7,1,9,4,7,9,3,1,13,12,11,14,2,6,5,10,4,0,15,8,9,0,5,7,2,4,10,15,14,1,11,12,6,8,3,13,2,12,6,10,0,11,8,3,4,13,7,5,15,14,1,9,12,5,1,15,14,13,4,10,0,7,6,3,9,2,8,11,13,11,7,14,12,1,3,9,5,0,15,4,8,6,2,10,6,15,14,9,11,3,0,8,12,2,13,7,1,4,10,5,10,2,8,4,7,6,1,5,15,11,9,14,3,12,13,0]
def chL:List Nat := [48,49,50,51,52,53,54,55,56,57,65,66,67,68,69,70,69,65,52,56,57,70,68,54,49,67,48,50,66,55,53,51,66,56,67,48,53,50,70,68,65,69,51,54,55,49,57,52,55,57,51,49,68,67,66,69,50,54,53,65,52,48,70,56,57,48,53,55,50,52,65,70,69,49,66,67,54,56,51,68,50,67,54,65,48,66,56,51,52,68,55,53,70,69,49,57,67,53,49,70,69,68,52,65,48,55,54,51,57,50,56,66,68,66,55,69,67,49,51,57,53,48,70,52,56,54,50,65,54,70,69,57,66,51,48,56,67,50,68,55,49,52,65,53,65,50,56,52,55,54,49,53,70,66,57,69,51,67,68,48]
def dgF (k:Nat):Nat:=ordL.getD k 0
def ordF (r j:Nat):Nat:=dgF (16 * r % 160 + j)
def chF (k:Nat):BitVec 8:=BitVec.ofNat 8 (chL.getD k 0)
set_option maxHeartbeats 1000000 in
theorem digit_any (k:Nat) (hk:k < 160) (w:World):Calls Tryd.prog 80 #[.int .u8 ((chF k).toNat:Int)] w fun e w'=>e = .returned (.int .i64 ((dgF k:Nat):Int)) ∧ w' = w:=by
  have hall:∀ k,k < 160 → (65 ≤ (chF k).toNat ∧ (chF k).toNat - 65 + 10 = dgF k ∧ (chF k).toNat ≤ 70) ∨ (¬ 65 ≤ (chF k).toNat ∧ 48 ≤ (chF k).toNat ∧ (chF k).toNat - 48 = dgF k):=by decide +kernel
  have h:=hall k hk
  clear hall
  generalize (chF k).toNat = c at *
  generalize dgF k = d at *
  rcases h with ⟨h1,h2,h3⟩ | ⟨h1,h2,h3⟩
  · have i1:(65:Int) ≤ (c:Int):=by omega
    have i2:(c:Int) ≤ 70:=by omega
    go_enter Tryd.func80,Tryd.ntmps80
    go_wp2
    go_ret
    exact ⟨ret_int (by omega),rfl⟩
  · have i1:¬ (65:Int) ≤ (c:Int):=by omega
    have i2:(48:Int) ≤ (c:Int):=by omega
    have i3:(c:Int) < 65:=by omega
    go_enter Tryd.func80,Tryd.ntmps80
    go_wp2
    go_ret
    exact ⟨ret_int (by omega),rfl⟩
theorem zero50 (w:World):Sem.run Tryd.prog (zeroValue 109) w = .ok (.agg (row 16 (iv fun _=>0)).toArray) w:=by kernel_rfl
theorem zero46 (w:World):Sem.run Tryd.prog (zeroValue 25) w = .ok (.agg (row 16 (wv fun _=>0#64)).toArray) w:=by kernel_rfl
theorem zero30 (w:World):Sem.run Tryd.prog (zeroValue 92) w = .ok (.agg (row 8 (wv fun _=>0#64)).toArray) w:=by kernel_rfl
theorem info50:(Tryd.prog.info? 109).map (·.size) = some 16:=by kernel_rfl
theorem info46:(Tryd.prog.info? 25).map (·.size) = some 16:=by kernel_rfl
theorem info30:(Tryd.prog.info? 92).map (·.size) = some 8:=by kernel_rfl
theorem info31:(Tryd.prog.info? 94).map (·.size) = some 128:=by kernel_rfl
def strO:ByteArray:=⟨#[48,49,50,51,52,53,54,55,56,57,65,66,67,68,69,70,69,65,52,56,57,70,68,54,49,67,48,50,66,55,53,51,66,56,67,48,53,50,70,68,65,69,51,54,55,49,57,52,55,57,51,49,68,67,66,69,50,54,53,65,52,48,70,56,57,48,53,55,50,52,65,70,69,49,66,67,54,56,51,68,50,67,54,65,48,66,56,51,52,68,55,53,70,69,49,57,67,53,49,70,69,68,52,65,48,55,54,51,57,50,56,66,68,66,55,69,67,49,51,57,53,48,70,52,56,54,50,65,54,70,69,57,66,51,48,56,67,50,68,55,49,52,65,53,65,50,56,52,55,54,49,53,70,66,57,69,51,67,68,48]⟩
theorem str_all:∀ k,k < 160 → (strO.data.getD k 0).toNat = (chF k).toNat:=by decide +kernel
theorem hch (k:Nat) (h:k < strO.size):((strO[k]'h).toNat:Int) = ((chF k).toNat:Int):=by
  have h1:(strO[k]'h) = strO.data.getD k 0:=by
    unfold Array.getD
    have h2:k < strO.data.size:=h
    rw [dif_pos h2]
    rfl
  rw [h1,str_all k h]
theorem calls_arg {x c:Int} {w:World} {Q:Ending → World → Prop} (h:x = c) (hc:Calls Tryd.prog 80 #[.int .u8 c] w Q):Calls Tryd.prog 80 #[.int .u8 x] w Q:=h ▸ hc
set_option maxRecDepth 20000 in
set_option maxHeartbeats 1000000 in
theorem order_any (r:Nat) (hr:r < 12) (w:World):Calls Tryd.prog 75 #[.int .i64 (r:Int)] w fun e w'=>e = .returned (.agg (row 16 (iv (ordF r))).toArray) ∧ Below w.heap.size w w':=by
  have hz:=zero50
  have r0:(0:Int) ≤ (r:Int):=by omega
  have r1:(r:Int) < 12:=by omega
  obtain ⟨A,hA⟩:∃ A,A = 16 * r % 160:=⟨_,rfl⟩
  have hA2:A ≤ 144:=by omega
  have hA3:(16 * (r:Int)) % 160 = (A:Int):=by omega
  replace hA:=hideit hA
  go_enter Tryd.func75,Tryd.ntmps75
  go_wp2
  simp only [hA3]
  go_loopw [9] (fun i wr=>∃ n:Nat,n ≤ 16 ∧ i = .int .i64 n ∧ RowAt w.heap.size 16 (iv fun _=>0) wr ∧ RowAt (w.heap.size + 1) 16 (iv fun j=>if j < n then ordF r j else 0) wr ∧ Below w.heap.size w wr) (fun i _=>16 - (intOf i).toNat)
  case atStart=>
    refine ⟨0,by omega,rfl,(RowAt.new w 16 (iv fun _=>0) 109).alloc _,?_,((Below.refl _ _).alloc (Nat.le_refl _) _).alloc (by simp) _⟩
    have:=RowAt.new (w.alloc (.cells (row 16 (iv fun _=>0)).toArray 109)) 16 (iv fun _=>0) 109
    exact RowAt.congr (g:=iv fun _=>0) (by simpa using this) fun j _=>by simp [iv]
  case round=>
    obtain ⟨n,hn,rfl,h1,h2,h3⟩:=hrel
    by_cases hlt:n < 16
    · have H1:=hideit h1
      have H2:=hideit h2
      have H3:=hideit h3
      have e2:=h2.1 n hlt
      have g2:=h2.2.1 n hlt
      clear h1 h2 h3
      have i0:(0:Int) ≤ (n:Int):=by omega
      have i1:(n:Int) < 16:=by omega
      go_wp2_with (go_at_call 80; refine calls_arg (c:=((chF (A + n)).toNat:Int)) (by exact hch (A + n) _) ((digit_any (A + n) (by omega) _).mono ?_); rintro e w' ⟨rfl,hw'⟩; subst hw')
      have hv:dgF (A + n) = ordF r n:=by unfold ordF; rw [hA.out]
      rw [hv]
      have HF:RowAt (w.heap.size + 1) 16 (iv fun j=>if j < n + 1 then ordF r j else 0) (w'.setCell ⟨w.heap.size + 1,n,none⟩ (.int .i64 ((ordF r n:Nat):Int))):=(H2.out.set n (iv (ordF r) n)).congr fun j _=>by
        simp only [iv]
        by_cases e:j = n
        · subst e; rw [if_pos rfl,if_pos (by omega)]
        · rw [if_neg e]
          by_cases h:j < n
          · rw [if_pos h,if_pos (by omega)]
          · rw [if_neg h,if_neg (by omega)]
      refine ⟨?_,by simp [intOf]; omega⟩
      exact ⟨n + 1,by omega,by go_num,H1.out.other _ _ (by simp),HF,H3.out.setCell (by simp) _⟩
    · obtain rfl:n = 16:=by omega
      have HR:=hideit (h2.congr (g':=iv (ordF r)) fun j hj=>by simp only [iv]; rw [if_pos hj])
      have HR0:=hideit h1
      have hB:=hideit h3
      clear h1 h2 h3
      go_wp2_with (first | (refine wpList_load_mid rfl 109 (.tmp 3) rfl _ 0 rfl (row 16 (iv (ordF r))) _ HR.out.range Tryd.underlying109 rfl (by rw [row_length]; exact info50) ?_) | (refine wpList_store_mid rfl 109 (.tmp 2) (.tmp 20) rfl _ 0 (row 16 (iv (ordF r))).toArray rfl rfl (by rw [row_size]; exact HR0.out.there) (by rw [row_size]; exact info50) (row_one fun _ _=>rfl) ?_))
      exact bodyPost_ret (ret_row Tryd.results75 rfl (HR0.out.cells (g':=iv (ordF r))) Tryd.underlying109 rfl info50) rfl ⟨rfl,below_setCells _ (Nat.le_refl _) _ _ _ hB.out⟩
def fL:List Nat := [7640891576956012808,13503953896175478587,4354685564936845355,11912009170470909681,5840696475078001361,11170449401992604703,2270897969802886507,6620516959819538809]
def fT (j:Nat):BitVec 64:=BitVec.ofNat 64 (fL.getD j 0)
theorem bld14 (X:World):(Instr.build 92 #[(0,.int .u64 7640891576956012808),(1,.int .u64 13503953896175478587),(2,.int .u64 4354685564936845355),(3,.int .u64 11912009170470909681),(4,.int .u64 5840696475078001361),(5,.int .u64 11170449401992604703),(6,.int .u64 2270897969802886507),(7,.int .u64 6620516959819538809)]).run Tryd.prog X = .ok (.agg (row 8 (wv fT)).toArray) X:=by kernel_rfl
set_option maxRecDepth 20000 in
theorem first_any (w:World):Calls Tryd.prog 67 #[] w fun e w'=>e = .returned (.agg (row 8 (wv fT)).toArray) ∧ Below w.heap.size w w':=by
  have hz:=zero30
  have HR0:=hideit (RowAt.new w 8 (wv fun _=>0#64) 92)
  have HE0:Ext w (w.alloc (.cells (row 8 (wv fun _=>0#64)).toArray 92)):=(Below.refl _ _).alloc (Nat.le_refl _) _
  replace HE0:=hideit HE0
  have hb:=bld14
  obtain ⟨F,hF⟩:∃ F,F = fT:=⟨_,rfl⟩
  rw [← hF] at hb ⊢
  clear hF
  go_enter Tryd.func67,Tryd.ntmps67
  go_upto_region 1 with (fail)
  generalize w.alloc (.cells (row 8 (wv fun _=>0#64)).toArray 92) = w1 at *
  refine wp_region_lit ?_
  refine wpList_build rfl 92 [(0,.const (.int .u64 7640891576956012808)),(1,.const (.int .u64 13503953896175478587)),(2,.const (.int .u64 4354685564936845355)),(3,.const (.int .u64 11912009170470909681)),(4,.const (.int .u64 5840696475078001361)),(5,.const (.int .u64 11170449401992604703)),(6,.const (.int .u64 2270897969802886507)),(7,.const (.int .u64 6620516959819538809))] rfl _ (hb _) ?_
  simp only [jk,jq,jv,jy]
  refine wpList_store_mid rfl 92 (.tmp 0) (.tmp 1) rfl _ 0 (row 8 (wv F)).toArray rfl rfl (by rw [row_size]; exact HR0.out.there) (by rw [row_size]; exact info30) (row_one fun _ _=>rfl) ?_
  go_wp2
  exact bodyPost_ret (ret_row Tryd.results67 rfl (HR0.out.cells (g':=wv F)) Tryd.underlying92 rfl info30) rfl ⟨rfl,below_setCells _ (Nat.le_refl _) _ _ _ HE0.out⟩
end Go.Proofs.YtfbmeclpcgdmhabDoor
namespace Go.Proofs.YtfbmeclpcgdmhabDoor
open Go.RowKit
section
variable {P:Program} {ops:Array Oper} {W:World} {Q:Exit → Act → World → Prop}
def StrongM (P:Program) (ops:Array Oper) (W:World) (o:Oper) (n:Nat) (g:Nat → Value) (vf:Nat → Value) (a:Act):Prop:=
  Region.wanted o (yielded ops a.tmps) = true ∧ ∀ w,Ext W w → ∃ C t,(execOp a.eval o).run P w = .ok (.value (vf w.heap.size)) (w.alloc (.cells C t)) ∧ ∀ j,j < n → C[j]? = some (g j)
theorem StrongM.put {o:Oper} {n:Nat} {g vf:Nat → Value} {u:Value} {a:Act} {d:Option Tmp} (hs:∀ cs b,o.op ≠ .select cs b) (h:∀ t,d = some t → t ∉ o.looksAt ops):StrongM P ops W o n g vf (a.put d u) ↔ StrongM P ops W o n g vf a:=by
  unfold StrongM
  rw [execOp_put (ops:=ops) o hs a d u h,wanted_put o a d u h]
def MK (P:Program) (ops:Array Oper) (W:World) (Q:Exit → Act → World → Prop) (om:Oper) (lops:List Oper) (A:Act):Prop:=
  ∃ n g vf,StrongM P ops W om n g vf A ∧ ∀ b w',W.heap.size ≤ b → Ext W w' → RowAt b n g w' → wpList P ops Q lops (A.put om.dst (vf b)) w'
def After (P:Program) (ops:Array Oper) (W:World) (Q:Exit → Act → World → Prop) (lops:List Oper) (b n:Nat) (g:Nat → Value) (A:Act):Prop:=∀ w',Ext W w' → RowAt b n g w' → wpList P ops Q lops A w'
def lf (L:Array Bool) (l:List Nat):List Nat:=l.filter fun k => !L.getD k true
theorem lf_split {R:Nat → Nat → Prop} {L:Array Bool} {l:List Nat} {i:Nat} (hn:l.Nodup) (hp:l.Pairwise R) (hi:i ∈ l) (hL:L.getD i true = false):
    ∃ r1 r2,lf L l = r1 ++ i :: r2 ∧ lf (L.setIfInBounds i true) l = r1 ++ r2 ∧ ∀ k ∈ r1,R k i ∧ L.getD k true = false:=by
  obtain ⟨s,t,rfl⟩:=List.append_of_mem hi
  obtain ⟨_,n2,n3⟩:=List.nodup_append.1 hn
  have n4:=(List.nodup_cons.1 n2).1
  obtain ⟨_,_,q3⟩:=List.pairwise_append.1 hp
  have hne:∀ k,k ≠ i → (L.setIfInBounds i true).getD k true = L.getD k true:=fun k hk=>getD_set_ne true (Ne.symm hk)
  have hself:(L.setIfInBounds i true).getD i true = true:=by
    unfold Array.getD
    split
    · simp
    · rfl
  refine ⟨s.filter fun k => !L.getD k true,t.filter fun k => !L.getD k true,?_,?_,?_⟩
  · unfold lf
    rw [List.filter_append,List.filter_cons,if_pos (by simp [hL])]
  · unfold lf
    rw [List.filter_append,List.filter_cons,if_neg (by simp [hself])]
    congr 1
    · exact List.filter_congr fun k hk=>by rw [hne k (n3 k hk i List.mem_cons_self)]
    · exact List.filter_congr fun k hk=>by rw [hne k (fun e=>n4 (e ▸ hk))]
  · intro k hk
    obtain ⟨hk1,hk2⟩:=List.mem_filter.1 hk
    exact ⟨q3 k hk1 i List.mem_cons_self,by simpa using hk2⟩
theorem lf_other {L:Array Bool} {l:List Nat} {i:Nat} (h:i ∉ l):lf (L.setIfInBounds i true) l = lf L l:=
  List.filter_congr fun k hk=>by rw [getD_set_ne true (fun e:i = k=>h (by rw [e]; exact hk))]
theorem lf_nil {L:Array Bool} {l:List Nat} (h:∀ k ∈ l,L.getD k true = true):lf L l = []:=
  List.filter_eq_nil_iff.2 fun k hk=>by simp [h k hk]
theorem lf_all {L:Array Bool} {l:List Nat} (h:∀ k ∈ l,L.getD k true = false):lf L l = l:=
  List.filter_eq_self.2 fun k hk=>by simp [h k hk]
def edgeB (ops:Array Oper) (k j:Nat):Bool:=match ops[j]?,ops[k]? with
  | some o,some ok=>o.after.any (fun e=>Region.binds .any e && e.on == k) || ok.apart ops o
  | _,_=>false
theorem edgeB_spec {k j:Nat} {o ok:Oper} (hj:ops[j]? = some o) (hk:ops[k]? = some ok) (h:edgeB ops k j = true):(∃ e ∈ o.after,Region.binds .any e = true ∧ e.on = k) ∨ ok.apart ops o = true:=by
  unfold edgeB at h
  rw [hj,hk] at h
  simp only [Bool.or_eq_true] at h
  rcases h with h2 | h2
  · obtain ⟨e,he,h3⟩:=Array.any_eq_true'.1 h2
    simp only [Bool.and_eq_true,beq_iff_eq] at h3
    exact .inl ⟨e,he,h3.1,h3.2⟩
  · exact .inr h2
def textB (ops:Array Oper):Bool:=Region.noSelect ops && (List.range ops.size).all fun j=>match ops[j]? with
  | none=>false
  | some o=>o.after.all (fun e => !Region.binds .any e || decide (e.on < j))
theorem textB_spec (h:textB ops = true):(∀ (j:Nat) (o:Oper) cs b,ops[j]? = some o → o.op ≠ .select cs b) ∧ ∀ j o,ops[j]? = some o → ∀ e ∈ o.after,Region.binds .any e = true → e.on < j:=by
  unfold textB at h
  rw [Bool.and_eq_true] at h
  refine ⟨Region.noSelect_spec h.1,fun j o ho e he hb=>?_⟩
  have hj:j < ops.size:=(Array.getElem?_eq_some_iff.1 ho).1
  have h1:=List.all_eq_true.1 h.2 j (List.mem_range.2 hj)
  rw [ho] at h1
  have:=Array.all_eq_true'.1 h1 e he
  simpa [hb] using this
structure MixAt' (P:Program) (ops:Array Oper) (W:World) (Q:Exit → Act → World → Prop) (ql:List Nat) (m:Nat) (om:Oper) (ll:List Nat) (lops:List Oper) (L:Array Bool) (A:Act) (w:World):Prop where
  size:L.size = ops.size
  closed:Closed ops L
  way:(L.getD m false = false ∧ (∀ i ∈ ll,L.getD i false = false) ∧ Ext W w ∧ wpS P ops W (MK P ops W Q om lops) (lf L ql) A) ∨
    (L.getD m false = true ∧ (∀ i ∈ ll,L.getD i false = false) ∧ ∃ b n g,Ext W w ∧ RowAt b n g w ∧ wpS P ops W (After P ops W Q lops b n g) (lf L ql) A) ∨
    (L.getD m false = true ∧ (∀ k ∈ ql,L.getD k false = true) ∧ ∃ l1 l2 lo2,ll = l1 ++ l2 ∧ (∀ k ∈ l1,L.getD k false = true) ∧ (∀ k ∈ l2,L.getD k false = false) ∧ l2.map (ops[·]?) = lo2.map some ∧ wpList P ops Q lo2 A w)
theorem StrongM.wpOp {i:Nat} {o:Oper} {n:Nat} {g vf:Nat → Value} {a:Act} {w:World} {K:Act → World → Prop} (hi:ops[i]? = some o) (hw:Ext W w) (hy:StrongM P ops W o n g vf a)
    (hK:∀ w',Ext w w' → RowAt w.heap.size n g w' → K (a.put o.dst (vf w.heap.size)) w'):wpOp P ops Q i K a w:=by
  obtain ⟨h1,h2⟩:=hy
  obtain ⟨C,t,h3,h4⟩:=h2 w hw
  unfold Go.wpOp
  rw [hi]
  simp only [h1,if_true]
  refine .inl ?_
  unfold Oper.wp
  rw [h3]
  simp only [Oper.upon]
  exact hK _ ((Below.refl _ _).alloc (Nat.le_refl _) _) (RowAt.newOf w n g t C h4)
theorem wpS_of_list {E:Act → Prop}:∀ (l:List Nat) (lo:List Oper) (a:Act),l.map (ops[·]?) = lo.map some → wpStrong P ops W E lo a → wpS P ops W E l a
  | [],lo,a,hl,h=>by
    cases lo with
    | nil=>exact h
    | cons _ _=>simp at hl
  | i :: l,lo,a,hl,h=>by
    cases lo with
    | nil=>simp at hl
    | cons o lo=>
      simp only [List.map_cons,List.cons.injEq] at hl
      obtain ⟨v,h1,h2⟩:=h
      exact ⟨o,v,hl.1,h1,wpS_of_list l lo _ hl.2 h2⟩
end
end Go.Proofs.YtfbmeclpcgdmhabDoor
