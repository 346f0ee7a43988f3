/-
  The digest of all parts of a message. Slices of the call's own whose elements have one cell and any number of bytes: append to them; zeros behind nil; no word of the program.
-/
import Derived.Test.YtfbmeclpcgdmhabDoorQk17
import Derived.Test.YtfbmeclpcgdmhabDoorQk6
namespace Go.Proofs.YtfbmeclpcgdmhabDoor
open Go.RowKit Go.BigFrame
set_option maxRecDepth 20000 in
set_option maxHeartbeats 2000000 in
theorem bsum_any (nn l k:Nat) (hn1:1 ≤ nn) (hn2:nn ≤ 64) (hl:l ≤ 64) (v pv:Value) (key:Nat → BitVec 8) (us:Nat → Value) (ls:Nat → Nat) (bs:Nat → Nat → BitVec 8) (w:World) (h:BV v l key w) (hP:Parts pv k us ls bs w) (hC:TabC w) (hk:k ≤ 140737488351232):
    Calls Tryd.prog 41 #[.int .i64 (nn:Int),v,pv] w fun e w'=>∃ v',e = .returned (.tuple #[v',.int .i64 0]) ∧ OwnB w.heap.size 5 v' nn (yv (blakeF (h0F nn l) (joinF (keyF l key) (keyN l) ls bs k) (keyN l + sumL ls k))) w' ∧ Ext w w':=by
  obtain ⟨oa,cp,rfl⟩:=h.form
  obtain ⟨ov,cap,rfl⟩:∃ ov cap,pv = .slice ov k cap:=by
    rcases hP.1 with ⟨h,h0⟩ | ⟨a,cap,h,_⟩
    · exact ⟨none,0,by rw [h,h0]⟩
    · exact ⟨_,cap,h⟩
  have hnw:=hideit (new_any nn l hn1 hn2 hl _ key w h)
  obtain ⟨H0,hH0⟩:∃ H0,H0 = h0F nn l:=⟨_,rfl⟩
  obtain ⟨J,hJ⟩:∃ J,J = joinF (keyF l key) (keyN l) ls bs:=⟨_,rfl⟩
  have hJ0:Hid (J 0 = keyF l key):=by rw [hJ]; rfl
  have hJs:Hid (∀ i,J (i + 1) = catF (J i) (keyN l + sumL ls i) (bs i)):=fun i=>by rw [hJ]; rfl
  rw [← hH0] at hnw ⊢
  rw [← hJ]
  obtain ⟨N0,hN0⟩:∃ N0,N0 = keyN l:=⟨_,rfl⟩
  rw [← hN0] at hnw hJs ⊢
  obtain ⟨K0,hK0⟩:∃ K0,K0 = keyF l key:=⟨_,rfl⟩
  rw [← hK0] at hnw hJ0
  clear hH0 hJ h hN0 hK0
  replace hC:=hideit hC
  replace hP:=hideit hP
  go_enter Tryd.func41,Tryd.ntmps41
  go_upto_region 4 with (go_at_call 57; refine hnw.out.mono ?_; rintro e w1 ⟨c,hc,rfl,h1,hE1⟩; have H1:=hideit h1; have HE1:=hideit hE1; clear h1 hE1 hnw)
  have HT0:HashOf c nn H0 (J 0) (N0 + sumL ls 0) w1:=by
    rw [hJ0.out,show N0 + sumL ls 0 = N0 from Nat.add_zero N0]
    exact H1.out
  replace HT0:=hideit HT0
  have hc0:c ≠ 1:=by have:=hC.out.2; omega
  clear H1
  go_wp2
  go_loopw [23] (fun iv wr=>∃ i:Nat,i ≤ k ∧ iv = .int .i64 (i:Int) ∧ HashOf c nn H0 (J i) (N0 + sumL ls i) wr ∧ Ext w wr) (fun iv _=>k - (intOf iv).toNat)
  case atStart=>exact ⟨0,by omega,rfl,HT0.out,HE1.out⟩
  case round=>
    clear HT0 HE1
    obtain ⟨i,hi,rfl,hT,hE⟩:=hrel
    have HT:=hideit hT
    have HE:=hideit hE
    clear hT hE
    by_cases hlt:i < k
    · have i0:(0:Int) ≤ (i:Int):=by omega
      have i1:(i:Int) < (k:Int):=by omega
      obtain ⟨a,rfl,hcell⟩:∃ a,ov = some a ∧ wr.cell? (a.add i) = some (us i):=by
        rcases hP.out.1 with ⟨h,h0⟩ | ⟨a,cap',h,_,h3⟩
        · omega
        · injection h with e1 e2 e3
          exact ⟨a,e1,(h3.carry HE.out).1 i hlt⟩
      have hwp:=hideit (writeV c nn (N0 + sumL ls i) (ls i) H0 (J i) (bs i) (us i) w wr (hP.out.2 i hlt) HE.out HT.out (hC.out.ext HE.out) hc hc0)
      go_upto_region 8 with (go_at_call 58; refine hwp.out.mono ?_; rintro e w7 ⟨rfl,h7,hB7⟩; have HT7:HashOf c nn H0 (J (i + 1)) (N0 + sumL ls (i + 1)) w7:=(by rw [hJs.out i,show N0 + sumL ls (i + 1) = N0 + sumL ls i + ls i by simp only [sumL]; omega]; exact h7); replace HT7:=hideit HT7; have HE7:=hideit (Ext.but HE.out hB7 hc); clear h7 hB7 HT HE hwp)
      go_wp2
      exact ⟨⟨i + 1,by omega,by go_num,HT7.out,HE7.out⟩,by simp [intOf]; omega⟩
    · obtain rfl:i = k:=by omega
      have i1:¬ (i:Int) < (i:Int):=by omega
      have hsm:=hideit (sum_any c nn _ H0 _ wr HT.out (hC.out.ext HE.out) hn2)
      go_wp2_with (go_at_call 59; refine hsm.out.mono ?_; rintro e w8 ⟨v8,rfl,hO8,hE8⟩; have HO8:=hideit (OwnB.down hO8 (Below.size HE.out)); have HE8:=hideit (Ext.trans HE.out hE8); clear hO8 hE8 hsm)
      exact bodyPost_ret (v:=.tuple #[v8,.int .i64 0]) (by simp [results,Tryd.results41]) rfl ⟨v8,rfl,HO8.out,HE8.out⟩
end Go.Proofs.YtfbmeclpcgdmhabDoor
namespace Go.Proofs.YtfbmeclpcgdmhabDoor
open Go.RowKit Go.BigFrame
structure ElemB (P:Program) (t e:TypeId) (B:Nat):Prop where
  slice:P.underlying t = some (.slice e)
  info:∃ i z,P.info? e = some i ∧ i.zero = some z ∧ i.size = 1 ∧ i.bytes = B ∧ z.cells.size = 1
theorem elem_b {P:Program} {t e:TypeId} {B:Nat} (hs:P.underlying t = some (.slice e)) (h1:(P.info? e).map (·.size) = some 1) (h2:(P.info? e).map (·.bytes) = some B) (h3:((P.info? e).bind (·.zero)).map (·.cells.size) = some 1):ElemB P t e B:=by
  refine ⟨hs,?_⟩
  cases hi:P.info? e with
  | none=>rw [hi] at h1; cases h1
  | some i=>
    rw [hi] at h1 h2 h3
    simp only [Option.map_some,Option.some.injEq,Option.bind_some] at h1 h2 h3
    cases hz:i.zero with
    | none=>rw [hz] at h3; cases h3
    | some z=>
      rw [hz] at h3
      simp only [Option.map_some,Option.some.injEq] at h3
      exact ⟨i,z,rfl,hz,h1,h2,h3⟩
section
variable {base:Nat} {e:TypeId} {v:Value} {n B:Nat} {g g':Nat → Value} {w w':World}
theorem wpList_growE {P:Program} {ops:Array Oper} {rest:List Oper} {o:Oper} {a:Act} {Q:Exit → Act → World → Prop} {t:TypeId} (E:ElemB P t e B) (hgd:o.guard = none) (s x:Operand)
    (ho:o.op = .call { callee:=.builtin .append,args := #[s,x],argTypes := #[t,t] }) (hs:a.eval s = v) (hown:OwnB base e v n g w)
    (ad:Addr) (m c:Nat) (u f:Nat → Value) (hx:a.eval x = .slice (some ad) m c) (hl:LieAt ad m u w) (h1:∀ j,j < m → (u j).oneCell' = true) (hf1:∀ j,j < n → g j = f j) (hf2:∀ j,j < m → u j = f (n + j))
    (hbytes:(n + m) * B ≤ 140737488355328) (h63:n + m ≤ 140737488355328) (hbase:base ≤ w.heap.size)
    (h:∀ v' w',OwnB base e v' (n + m) f w' → w.grownBy w' v.ownBlock → wpList P ops Q rest (a.put o.dst v') w'):wpList P ops Q (o :: rest) a w:=by
  obtain ⟨i,z,e1,e2,e3,e4,e5⟩:=E.info
  refine wpList_append_own w hgd s x t ho base e i z 1 B E.slice e1 e2 e3 e4 e5 (by decide) v n (row n g) hs hown ad m c (row m u) hx (by rw [row_length]; omega) (fun j w0 hj=>?_) (fun w0 hw0=>?_) (by unfold maxLen; omega) hbytes hbase fun v' w' h2 h3 _=>h v' w' ?_ h3
  · obtain ⟨hj',rfl⟩:=row_some hj
    exact hl.1 j hj'
  · obtain ⟨j,hj,rfl⟩:=List.mem_map.1 hw0
    exact h1 j (by simpa using hj)
  · unfold OwnB
    rwa [row_append n m g u f hf1 hf2] at h2
theorem wpList_growE_none {P:Program} {ops:Array Oper} {rest:List Oper} {o:Oper} {a:Act} {Q:Exit → Act → World → Prop} {t:TypeId} (E:ElemB P t e B) (hgd:o.guard = none) (s x:Operand)
    (ho:o.op = .call { callee:=.builtin .append,args := #[s,x],argTypes := #[t,t] }) (hs:a.eval s = v) (hown:OwnB base e v n g w) (hx:a.eval x = .slice none 0 0)
    (h:wpList P ops Q rest (a.put o.dst v) w):wpList P ops Q (o :: rest) a w:=by
  obtain ⟨i,z,e1,e2,e3,e4,e5⟩:=E.info
  exact wpList_append_own_none hgd s x t ho base e i 1 E.slice e1 v n (row n g) hs hown hx h
end
theorem wpList_appN {P:Program} {ops:Array Oper} {rest:List Oper} {o:Oper} {a:Act} {w:World} {Q:Exit → Act → World → Prop} (hgd:o.guard = none) (s x:Operand) (t u:TypeId) (ho:o.op = .call { callee:=.builtin .append,args := #[s,x],argTypes := #[t,u] })
    (v y v':Value) (w':World) (hs:a.eval s = v) (hx:a.eval x = y) (hr:(Builtin.append_ #[t,u] o.type #[v,y]).run P w = .ok v' w') (h:wpList P ops Q rest (a.put o.dst v') w'):wpList P ops Q (o :: rest) a w:=by
  refine wpList_plain hgd fun K hK=>?_
  unfold Oper.wp execOp
  simp only [ho,resolve,invoke,builtin,Sem.run_bind,Sem.run_pure,Result.andThen_ok,List.map_toArray,List.map_cons,List.map_nil,hs,hx,hr]
  exact hK _ _ h
theorem zeroCellsE (zv:Value) (m:Nat):Builtin.zeroCells #[zv] m = (row m fun _=>zv).toArray:=by
  apply Array.ext'
  simp only [Builtin.zeroCells,row]
  apply List.ext_getElem?
  intro i
  by_cases h:i < m
  · simp [h,Nat.mod_one]
  · simp [h]
end Go.Proofs.YtfbmeclpcgdmhabDoor
