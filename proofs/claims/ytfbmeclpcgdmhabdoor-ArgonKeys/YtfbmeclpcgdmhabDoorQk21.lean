/-
  Long digests, for every length and all parts. Which page of a window, the program's and the document's.
-/
import Derived.Test.YtfbmeclpcgdmhabDoorQk1
import Derived.Test.YtfbmeclpcgdmhabDoorQk19
import Derived.Test.YtfbmeclpcgdmhabDoorQk20
namespace Go.Proofs.YtfbmeclpcgdmhabDoor
set_option maxRecDepth 20000
open Go.RowKit Go.BigFrame
theorem qOf_le (n:Nat):128 * qOf n ≤ n:=by
  unfold qOf
  omega
theorem blakeF_congr (h0:Nat → BitVec 64) (m m':Nat → BitVec 8) (n:Nat) (e:∀ j,j < n → m j = m' j):blakeF h0 m n = blakeF h0 m' n:=by
  have hq:=qOf_le n
  unfold blakeF
  rw [chainB_congr h0 m m' (qOf n) (fun j hj=>e j (by omega))]
  have hp:pendB m (qOf n) (n - 128 * qOf n) = pendB m' (qOf n) (n - 128 * qOf n):=by
    funext j
    unfold pendB
    split
    · rw [e _ (by omega)]
    · rfl
  rw [hp]
def bF (nn:Nat) (m:Nat → BitVec 8) (n:Nat):Nat → BitVec 8:=blakeF (h0F nn 0) m n
theorem bF_congr (nn:Nat) (m m':Nat → BitVec 8) (n:Nat) (e:∀ j,j < n → m j = m' j):bF nn m n = bF nn m' n:=blakeF_congr _ m m' n e
theorem key0 (key:Nat → BitVec 8):keyF 0 key = fun _=>0#8:=by funext j; unfold keyF; rw [if_neg (by omega)]
theorem nil_bv (w:World):BV (.slice none 0 0) 0 (fun _=>0#8) w:=.inl ⟨rfl,rfl⟩
theorem plain_sum (nn k:Nat) (hn1:1 ≤ nn) (hn2:nn ≤ 64) (pv:Value) (us:Nat → Value) (ls:Nat → Nat) (bs:Nat → Nat → BitVec 8) (w:World) (hP:Parts pv k us ls bs w) (hC:TabC w) (hk:k ≤ 140737488351232):
    Calls Tryd.prog 41 #[.int .i64 (nn:Int),.slice none 0 0,pv] w fun e w'=>∃ v',e = .returned (.tuple #[v',.int .i64 0]) ∧ OwnB w.heap.size 5 v' nn (yv (bF nn (allF ls bs k) (sumL ls k))) w' ∧ Ext w w':=by
  have h:=bsum_any nn 0 k hn1 hn2 (by omega) (.slice none 0 0) pv (fun _=>0#8) us ls bs w (nil_bv w) hP hC hk
  rw [key0,show keyN 0 = 0 from rfl,Nat.zero_add] at h
  exact h
set_option maxRecDepth 20000 in
theorem short_any (left nn k:Nat) (h1:1 ≤ left) (hl:left ≤ 65536) (hnn:nn = min left 64) (pv:Value) (us:Nat → Value) (ls:Nat → Nat) (bs:Nat → Nat → BitVec 8) (w:World) (hP:Parts pv k us ls bs w) (hC:TabC w) (hk:k ≤ 140737488351232):
    Calls Tryd.prog 47 #[.int .i64 (left:Int),pv] w fun e w'=>∃ v',e = .returned v' ∧ OwnB w.heap.size 5 v' nn (yv (bF nn (allF ls bs k) (sumL ls k))) w' ∧ Ext w w':=by
  have hs:=hideit (plain_sum nn k (by omega) (by omega) pv us ls bs w hP hC hk)
  clear hP hC
  have l0:(0:Int) ≤ (left:Int):=by omega
  by_cases h:left ≤ 64
  · obtain rfl:nn = left:=by omega
    clear hnn
    have l1:(nn:Int) ≤ 64:=by omega
    go_enter Tryd.func47,Tryd.ntmps47
    go_wp2_with (go_at_call 41; refine hs.out.mono ?_; rintro e w1 ⟨v1,rfl,hO1,hE1⟩; replace hO1:=hideit hO1; replace hE1:=hideit hE1)
    go_ret
    exact ⟨_,rfl,hO1.out,hE1.out⟩
  · obtain rfl:nn = 64:=by omega
    clear hnn
    have l1:(64:Int) < (left:Int):=by omega
    go_enter Tryd.func47,Tryd.ntmps47
    go_wp2_with (go_at_call 41; refine hs.out.mono ?_; rintro e w1 ⟨v1,rfl,hO1,hE1⟩; replace hO1:=hideit hO1; replace hE1:=hideit hE1)
    go_ret
    exact ⟨_,rfl,hO1.out,hE1.out⟩
theorem wpList_make0 {P:Program} {t e:TypeId} (w:World) {ops:Array Oper} {rest:List Oper} {o:Oper} {a:Act} {Q:Exit → Act → World → Prop}
    (hu:P.underlying t = some (.slice e)) (hi:(P.info? e).map (fun i=>(i.zero,i.size,i.bytes)) = some (some (.int .u8 0),1,1)) (hg:o.guard = none) (l c:Operand) (hop:o.op = Op.makeSlice t l c)
    (n:Nat) (hl:a.eval l = .int .i64 0) (hc:a.eval c = .int .i64 (n:Int)) (b:n ≤ 140737488355328) (g:Nat → Value)
    (hK:∀ w',OwnB w.heap.size e (.slice (some ⟨w.heap.size,0,none⟩) 0 n) 0 g w' → Ext w w' → wpList P ops Q rest (a.put o.dst (.slice (some ⟨w.heap.size,0,none⟩) 0 n)) w'):
    wpList P ops Q (o :: rest) a w:=by
  obtain ⟨ti,hi1,hi2,hi3,hi4⟩:=info_parts hi
  refine wpList_make_own w hg l c t hop w.heap.size e ti (.int .u8 0) 1 hu hi1 hi2 hi3 .i64 .i64 (n:Int) n hl hc rfl (by rw [hi4]; omega) (by unfold maxLen; omega) (Nat.le_refl _) ?_
  intro w1 hO hg1
  exact hK w1 hO ⟨hg1.os,hg1.tape,hg1.output,hg1.size,fun k hk=>hg1.block k hk (by simp)⟩
def consN {α:Type} (a:α) (f:Nat → α) (i:Nat):α:=if i = 0 then a else f (i - 1)
theorem sum_cons (a:Nat) (ls:Nat → Nat):∀ k,sumL (consN a ls) (k + 1) = a + sumL ls k
  | 0=>by simp [sumL,consN]
  | k + 1=>by
    rw [sumL,sum_cons a ls k]
    show a + sumL ls k + consN a ls (k + 1) = a + (sumL ls k + ls k)
    unfold consN
    rw [if_neg (by omega),Nat.add_sub_cancel,Nat.add_assoc]
theorem all_cons (a:Nat) (ls:Nat → Nat) (F:Nat → BitVec 8) (bs:Nat → Nat → BitVec 8):∀ k,allF (consN a ls) (consN F bs) (k + 1) = joinF F a ls bs k
  | 0=>by
    funext j
    show catF (fun _=>0#8) (0 + sumL (consN a ls) 0) (consN F bs 0) j = F j
    unfold catF
    rw [if_neg (by simp [sumL])]
    simp [sumL,consN]
  | k + 1=>by
    show catF (allF (consN a ls) (consN F bs) (k + 1)) (0 + sumL (consN a ls) (k + 1)) (consN F bs (k + 1)) = catF (joinF F a ls bs k) (a + sumL ls k) (bs k)
    rw [all_cons a ls F bs k,sum_cons,Nat.zero_add]
    rfl
def Vd (n:Nat) (m:Nat → BitVec 8) (N:Nat):Nat → Nat → BitVec 8
  | 0=>bF (min n 64) (catF (fourB n) 4 m) (4 + N)
  | i + 1=>bF (min (n - 32 * (i + 1)) 64) (Vd n m N i) 64
def rN (n:Nat):Nat:=(n + 31) / 32 - 2
def longF (n:Nat) (m:Nat → BitVec 8) (N:Nat) (j:Nat):BitVec 8:=if j < 32 * rN n then Vd n m N (j / 32) (j % 32) else Vd n m N (rN n) (j - 32 * rN n)
theorem BV.one {v:Value} {l:Nat} {b:Nat → BitVec 8} {w:World} (h:BV v l b w):v.oneCell' = true:=by
  obtain ⟨oa,cp,rfl⟩:=h.form
  rfl
set_option maxRecDepth 20000 in
set_option maxHeartbeats 4000000 in
theorem long_any (n k N:Nat) (hn1:1 ≤ n) (hn2:n ≤ 65536) (pv:Value) (us:Nat → Value) (ls:Nat → Nat) (bs:Nat → Nat → BitVec 8) (m:Nat → BitVec 8) (w:World) (hP:Parts pv k us ls bs w) (hC:TabC w) (hk:k ≤ 4398046511103) (hN:N = sumL ls k) (hm:∀ j,j < N → allF ls bs k j = m j):
    Calls Tryd.prog 21 #[.int .i64 (n:Int),pv] w fun e w'=>∃ v,e = .returned (.tuple #[v,.int .i64 0]) ∧ OwnB w.heap.size 5 v n (yv (longF n m N)) w' ∧ Ext w w':=by
  obtain ⟨o2,c2,hpv,hp2⟩:∃ o2 c2,pv = .slice o2 k c2 ∧ ((o2 = none ∧ k = 0 ∧ c2 = 0) ∨ ∃ a,o2 = some a ∧ LieAt a k us w):=by
    rcases hP.1 with ⟨h1,h2⟩ | ⟨a,cap,h1,h2,h3⟩
    · exact ⟨none,0,by rw [h1,h2],.inl ⟨rfl,h2,rfl⟩⟩
    · exact ⟨some a,cap,h1,.inr ⟨a,rfl,h3⟩⟩
  subst hpv
  replace hp2:=hideit hp2
  replace hP:=hideit hP
  replace hC:=hideit hC
  have n0:(1:Int) ≤ (n:Int):=by omega
  have n1:(n:Int) ≤ 65536:=by omega
  have hcg:Hid (bF (min n 64) (allF (consN 4 ls) (consN (fourB n) bs) (k + 1)) (sumL (consN 4 ls) (k + 1)) = Vd n m N 0):=by
    show _ = bF (min n 64) (catF (fourB n) 4 m) (4 + N)
    rw [all_cons,sum_cons,← hN]
    refine bF_congr _ _ _ _ fun j hj=>?_
    rw [join_all _ _ _ _ k j (by omega)]
    unfold catF
    split
    · rfl
    · rw [hm _ (by omega)]
  clear hm hN
  go_enter Tryd.func21,Tryd.ntmps21
  go_upto_region 3 with (fail)
  refine wp_region_lit ?_
  refine wpList_run rfl (.int .i64 (n:Int)) (by simp [go_sem]) ?_
  simp only [jk,jq,jv,jy]
  refine wpList_run rfl (.int .i64 (n:Int)) (by simp [go_sem]) ?_
  simp only [jk,jq,jv,jy]
  refine wpList_call rfl (by simp [go_sem]) ((number_any n (by omega) w).mono ?_)
  rintro e w1 ⟨g,rfl,hg,hB1,hE1⟩
  refine ⟨_,rfl,?_⟩
  obtain ⟨x1,hx1⟩:∃ x1,x1 = w1.alloc (.cells #[.slice (some ⟨g,0,none⟩) 4 4] 32):=⟨_,rfl⟩
  have hEx:Ext w1 x1:=by rw [hx1]; exact (Below.refl _ _).alloc (Nat.le_refl _) _
  have hLx:LieAt ⟨w1.heap.size,0,none⟩ 1 (fun _=>.slice (some ⟨g,0,none⟩) 4 4) x1:=by rw [hx1]; exact lieNew w1 1 _ 32 (0,0) _ (fun j hj=>by
    obtain rfl:j = 0:=by omega
    rfl)
  simp only [jk,jq,jv,jy]
  refine wpList_to rfl (.slice (some ⟨w1.heap.size,0,none⟩) 1 1) x1 (by rw [hx1]; simp [go_sem]) ?_
  simp only [jk,jq,jv,jy]
  refine wpList_run rfl (.slice o2 k c2) (by simp [go_sem]) ?_
  simp only [jk,jq,jv,jy]
  obtain ⟨x2,hx2⟩:∃ x2,x2 = x1.alloc (.cells #[.slice (some ⟨w1.heap.size,0,none⟩) 1 1,.slice o2 k c2] 68):=⟨_,rfl⟩
  have hEy:Ext x1 x2:=by rw [hx2]; exact (Below.refl _ _).alloc (Nat.le_refl _) _
  have hLy:LieAt ⟨x1.heap.size,0,none⟩ 2 (twoV (.slice (some ⟨w1.heap.size,0,none⟩) 1 1) (.slice o2 k c2)) x2:=by rw [hx2]; exact lieNew x1 2 _ 68 (0,0) _ (fun j hj=>by
    rcases (by omega:j = 0 ∨ j = 1) with rfl | rfl <;> rfl)
  refine wpList_to rfl (.slice (some ⟨x1.heap.size,0,none⟩) 2 2) x2 (by rw [hx2]; simp [go_sem]) ?_
  have hE02:=Ext.trans (Ext.trans hE1 hEx) hEy
  have hcc:=concat_any x1.heap.size 1 1 k c2 ⟨w1.heap.size,0,none⟩ o2 (fun _=>.slice (some ⟨g,0,none⟩) 4 4) us x2 hLy (hLx.carry hEy) (by
    rcases hp2.out with h | ⟨a,h,hh⟩
    · exact .inl h
    · exact .inr ⟨a,h,hh.carry hE02⟩) (fun _ _=>rfl) (fun j hj=>(hP.out.2 j hj).one) (by omega) (by omega)
  simp only [jk,jq,jv,jy]
  refine wpList_call rfl (by simp [go_sem]) (hcc.mono ?_)
  rintro e w3 ⟨v3,rfl,hO3,hE3⟩
  refine ⟨_,rfl,?_⟩
  have hE03:=Ext.trans hE02 hE3
  have hPp:Parts v3 (k + 1) (catV (fun _=>.slice (some ⟨g,0,none⟩) 4 4) 1 us) (consN 4 ls) (consN (fourB n) bs) w3:=by
    rw [Nat.add_comm 1 k] at hO3
    refine ⟨?_,fun i hi=>?_⟩
    · obtain ⟨b,cap,rfl,_,hc,_,hR⟩:=hO3.lies (by omega)
      exact .inr ⟨_,cap,rfl,hc,hR.lie _ (Nat.le_refl _)⟩
    · unfold catV consN
      by_cases e:i = 0
      · subst e
        exact hB1.ext (Ext.trans (Ext.trans hEx hEy) hE3)
      · rw [if_neg (by omega),if_neg e,if_neg e]
        exact (hP.out.2 (i - 1) (by omega)).ext hE03
  have hsh:=short_any n (min n 64) (k + 1) hn1 hn2 rfl v3 _ _ _ w3 hPp (hC.out.ext hE03) (by omega)
  rw [hcg.out] at hsh
  simp only [jk,jq,jv,jy]
  refine wpList_call rfl (by simp [go_sem]) (hsh.mono ?_)
  rintro e w4 ⟨v4,rfl,hO4,hE4⟩
  refine ⟨_,rfl,?_⟩
  have hE04:=hideit (Ext.trans hE03 hE4)
  have hO4':=hideit (hO4.down (Below.size hE03))
  clear hO4 hE4 hsh hPp hE03 hO3 hE3 hcc hE02 hLy hEy hx2 hLx hEx hx1 hB1 hE1 hg hcg hP hp2
  obtain ⟨o4,c4,rfl⟩:=hO4'.out.bv.form
  simp only [jk,jq,jv,jy]
  go_upto_region 4 with (fail)
  refine wp_region_lit ?_
  refine wpList_run rfl (.int .i64 (n:Int)) (by simp [go_sem]) ?_
  simp only [jk,jq,jv,jy]
  refine wpList_make0 w4 Tryd.underlying32 (by kernel_rfl) rfl (.const (.int .i64 0)) (.tmp 22) rfl n rfl rfl (by omega) (yv (longF n m N)) ?_
  intro w5 hO5 hE5
  have hw4:=Below.size hE04.out
  have hE05:=hideit (Ext.trans hE04.out hE5)
  have hD5:=hideit (hO4'.out.ext hE5)
  have hL5:=hideit (hO5.down (base':=w.heap.size) hw4)
  have hne:Hid ((Value.slice o4 (min n 64) c4).ownBlock ≠ (Value.slice (some ⟨w4.heap.size,0,none⟩) 0 n).ownBlock):=fun h=>by
    have:=(hO4'.out.lt w4.heap.size h).2
    omega
  clear hO4' hE04 hO5 hE5 hw4
  simp only [jk,jq,jv,jy]
  go_wp2
  go_loopw [6,7,29] (fun d lg ix wr=>∃ i:Nat,i ≤ rN n ∧ ix = .int .i64 (i:Int) ∧ OwnB w.heap.size 5 d (min (n - 32 * i) 64) (yv (Vd n m N i)) wr ∧ OwnB w.heap.size 5 lg (32 * i) (yv (longF n m N)) wr ∧ d.ownBlock ≠ lg.ownBlock ∧ Ext w wr) (fun _ _ ix _=>rN n - (intOf ix).toNat)
  case atStart=>exact ⟨0,Nat.zero_le _,rfl,hD5.out,hL5.out,hne.out,hE05.out⟩
  case round=>
    clear hE05 hD5 hL5 hne
    obtain ⟨i,hi,rfl,hD,hL,hne,hE⟩:=hrel
    replace hD:=hideit hD
    replace hL:=hideit hL
    replace hne:=hideit hne
    replace hE:=hideit hE
    obtain ⟨od,cd,rfl⟩:=hD.out.bv.form
    obtain ⟨ol,cl,rfl⟩:=hL.out.bv.form
    have i0:(0:Int) ≤ (i:Int):=by omega
    by_cases hlt:i < rN n
    · have i1:(i:Int) < ((n:Int) + 32 - 1) / 32 - 2:=by unfold rN at hlt; omega
      have h64:32 * i + 64 < n:=by unfold rN at hlt; omega
      have hd64:min (n - 32 * i) 64 = 64:=by omega
      rw [hd64] at hD
      rw [hd64]
      rw [hd64] at hne
      clear hd64
      obtain ⟨b,cd',hv,hb,hcd,_,hR⟩:=hD.out.lies (by omega)
      injection hv with q1 q2 q3
      subst q1
      subst q3
      clear q2
      have c32:(32:Int) ≤ (cd:Int):=by omega
      have hB32:Hid (BV (.slice (some ⟨b,0,none⟩) 32 cd) 32 (Vd n m N i) wr):=.inr ⟨_,cd,rfl,by omega,hR.lie 32 (by omega)⟩
      clear hR
      go_upto_region 7 with (fail)
      refine wp_region_lit ?_
      refine wpList_run rfl (.slice ol (32 * i) cl) (by simp [go_sem]) ?_
      simp only [jk,jq,jv,jy]
      refine wpList_run rfl (.slice (some ⟨b,0,none⟩) 64 cd) (by simp [go_sem]) ?_
      simp only [jk,jq,jv,jy]
      refine wpList_run rfl (.slice (some ⟨b,0,none⟩) 32 cd) (by simp [go_sem,c32]) ?_
      simp only [jk,jq,jv,jy]
      refine wpList_growV (n:=32 * i) (base:=w.heap.size) elem22 rfl (.tmp 31) (.tmp 33) rfl rfl hL.out (.slice (some ⟨b,0,none⟩) 32 cd) 32 (Vd n m N i) (yv (longF n m N)) rfl hB32.out (fun _ _=>rfl) (fun j hj=>by simp only [yv]; unfold longF; rw [if_pos (by omega),show (32 * i + j) / 32 = i by omega,show (32 * i + j) % 32 = j by omega]) (by omega) (Below.size hE.out) ?_
      intro v6 w6 hO6 hg6
      have hE6:=hideit (Below.trans hE.out (below_grown (Below.size hE.out) hg6 fun k hk=>(hL.out.lt k hk).1))
      have hD6:=hideit (hD.out.kept hg6 (.inr hne.out))
      replace hO6:=hideit hO6
      obtain ⟨o6,c6,rfl⟩:=hO6.out.bv.form
      clear hg6 hB32 hD hL hE hne
      have hEa:Ext w6 (w6.alloc (.cells #[.slice (some ⟨b,0,none⟩) 64 cd] 32)):=(Below.refl _ _).alloc (Nat.le_refl _) _
      have hB7:=hD6.out.bv.ext hEa
      have hp7:=partsOne w6 (.slice (some ⟨b,0,none⟩) 64 cd) 64 (Vd n m N i) hB7
      have hO7:=hideit (hO6.out.ext hEa)
      have hE7:=hideit (Ext.trans hE6.out hEa)
      have hsh:=short_any (n - (32 * i + 32)) (min (n - 32 * (i + 1)) 64) 1 (by omega) (by omega) rfl _ _ _ _ _ hp7 (hC.out.ext hE7.out) (by omega)
      have hbf:bF (min (n - 32 * (i + 1)) 64) (allF (fun _=>64) (fun _=>Vd n m N i) 1) (sumL (fun _=>64) 1) = Vd n m N (i + 1):=by
        show bF _ _ 64 = bF _ _ 64
        refine bF_congr _ _ _ _ fun j hj=>?_
        show catF (fun _=>0#8) (0 + 0) (Vd n m N i) j = _
        unfold catF
        rw [if_neg (by omega)]
        rfl
      rw [hbf,show ((n - (32 * i + 32):Nat):Int) = (n:Int) - ((32 * i + 32:Nat):Int) by omega] at hsh
      replace hsh:=hideit hsh
      have i2:(n:Int) - ((32 * i + 32:Nat):Int) ≤ 65536:=by omega
      clear hbf hp7 hB7 hEa hD6 hE6 hO6
      simp only [jk,jq,jv,jy]
      go_upto_region 8 with (fail)
      refine wp_region_lit ?_
      refine wpList_run rfl (.int .i64 (n:Int)) (by simp [go_sem]) ?_
      simp only [jk,jq,jv,jy]
      refine wpList_run rfl (.slice o6 (32 * i + 32) c6) (by simp [go_sem]) ?_
      simp only [jk,jq,jv,jy]
      refine wpList_run rfl (.int .i64 ((32 * i + 32:Nat):Int)) (by simp [go_sem]) ?_
      simp only [jk,jq,jv,jy]
      refine wpList_run rfl (.int .i64 ((n:Int) - ((32 * i + 32:Nat):Int))) (by simp [go_sem]; rw [IntKind.wrap_i64]; omega) ?_
      simp only [jk,jq,jv,jy]
      refine wpList_run rfl (.slice (some ⟨b,0,none⟩) 64 cd) (by simp [go_sem]) ?_
      simp only [jk,jq,jv,jy]
      refine wpList_to rfl (.slice (some ⟨w6.heap.size,0,none⟩) 1 1) (w6.alloc (.cells #[.slice (some ⟨b,0,none⟩) 64 cd] 32)) (by simp [go_sem]) ?_
      simp only [jk,jq,jv,jy]
      refine wpList_call rfl (by simp [go_sem]) (hsh.out.mono ?_)
      rintro e w8 ⟨v8,rfl,hO8,hE8⟩
      refine ⟨_,rfl,?_⟩
      have hL8:=hideit (hO7.out.ext hE8)
      have hD8:=hideit (hO8.down (base':=w.heap.size) (Below.size hE7.out))
      have hne8:Hid (v8.ownBlock ≠ (Value.slice o6 (32 * i + 32) c6).ownBlock):=fun h=>by
        cases hob:(Value.slice o6 (32 * i + 32) c6).ownBlock with
        | none=>
          obtain ⟨x,y,hx,_⟩:=hO8.lies (by omega)
          rw [hob,hx] at h
          cases h
        | some x=>
          rw [hob] at h
          have h1:=(hO8.lt x h).1
          have h2:=(hO7.out.lt x hob).2
          omega
      have hE8':=hideit (Ext.trans hE7.out hE8)
      clear hO7 hE7 hO8 hE8 hsh
      obtain ⟨o8,c8,rfl⟩:=hD8.out.bv.form
      simp only [jk,jq,jv,jy]
      go_wp2
      exact ⟨⟨i + 1,by omega,by go_num,hD8.out,hL8.out,hne8.out,hE8'.out⟩,by simp [intOf]; omega⟩
    · have i1:¬ (i:Int) < ((n:Int) + 32 - 1) / 32 - 2:=by unfold rN at hlt; omega
      obtain ⟨R,hR⟩:∃ R,R = rN n:=⟨_,rfl⟩
      obtain rfl:i = R:=by omega
      have hr1:n ≤ 32 * i + 64 ∧ 32 * i ≤ n:=by unfold rN at hR; omega
      have hd:min (n - 32 * i) 64 = n - 32 * i:=by omega
      rw [hd] at hD
      rw [hd]
      have hf2:Hid (∀ j,j < n - 32 * i → yv (Vd n m N i) j = yv (longF n m N) (32 * i + j)):=fun j hj=>by
        simp only [yv]
        unfold longF
        rw [← hR,if_neg (by omega),Nat.add_sub_cancel_left]
      have hsum:32 * i + (n - 32 * i) = n:=by omega
      clear hd hR hlt hi hne
      go_upto_region 10 with (fail)
      refine wp_region_lit ?_
      refine wpList_run rfl (.slice ol (32 * i) cl) (by simp [go_sem]) ?_
      simp only [jk,jq,jv,jy]
      refine wpList_run rfl (.slice od (n - 32 * i) cd) (by simp [go_sem]) ?_
      simp only [jk,jq,jv,jy]
      refine wpList_growV (n:=32 * i) (base:=w.heap.size) elem22 rfl (.tmp 43) (.tmp 44) rfl rfl hL.out (.slice od (n - 32 * i) cd) (n - 32 * i) (Vd n m N i) (yv (longF n m N)) rfl hD.out.bv (fun _ _=>rfl) hf2.out (by omega) (Below.size hE.out) ?_
      intro v6 w6 hO6 hg6
      have hE6:=hideit (Below.trans hE.out (below_grown (Below.size hE.out) hg6 fun k hk=>(hL.out.lt k hk).1))
      rw [hsum] at hO6
      replace hO6:=hideit hO6
      obtain ⟨o6,c6,rfl⟩:=hO6.out.bv.form
      clear hg6 hD hL hE hf2
      simp only [jk,jq,jv,jy]
      go_wp2
      go_ret2
      exact ⟨_,rfl,hO6.out,hE6.out⟩
end Go.Proofs.YtfbmeclpcgdmhabDoor
namespace Go.Proofs.YtfbmeclpcgdmhabDoor
set_option maxRecDepth 20000
open Go.RowKit Go.BigFrame
def whI (n j:Int):Int:=n - 1 - n * (j * j / 4294967296) / 4294967296
theorem wh_facts (n j:Int) (h1:1 ≤ n) (h2:n ≤ 2147483647) (j0:0 ≤ j) (j1:j ≤ 4294967295):
    IntKind.u64.wrap (j * j) = j * j ∧ 0 ≤ j * j ∧ j * j ≤ 18446744065119617025 ∧ 0 ≤ n * (j * j / 4294967296) ∧ n * (j * j / 4294967296) ≤ 9223372028264841218 ∧ IntKind.u64.wrap (n * (j * j / 4294967296)) = n * (j * j / 4294967296) ∧ IntKind.i64.wrap (n * (j * j / 4294967296) / 4294967296) = n * (j * j / 4294967296) / 4294967296 ∧ 0 ≤ whI n j ∧ whI n j ≤ n - 1:=by
  have a1:0 ≤ j * j:=Int.mul_nonneg j0 j0
  have a2:j * j ≤ 4294967295 * 4294967295:=Int.mul_le_mul j1 j1 j0 (by omega)
  obtain ⟨x,hx⟩:∃ x,x = j * j / 4294967296:=⟨_,rfl⟩
  have x0:0 ≤ x:=by omega
  have x1:x ≤ 4294967294:=by omega
  have b1:0 ≤ n * x:=Int.mul_nonneg (by omega) x0
  have b2:n * x ≤ 2147483647 * 4294967294:=Int.mul_le_mul h2 x1 x0 (by omega)
  have b3:n * x ≤ n * 4294967294:=Int.mul_le_mul_of_nonneg_left x1 (by omega)
  unfold whI
  rw [← hx,IntKind.wrap_u64,IntKind.wrap_u64,IntKind.wrap_i64]
  refine ⟨by omega,a1,by omega,b1,by omega,by omega,by omega,by omega,by omega⟩
set_option maxRecDepth 20000 in
theorem which_any (n j:Int) (h1:1 ≤ n) (h2:n ≤ 2147483647) (j0:0 ≤ j) (j1:j ≤ 4294967295) (w:World):Calls Tryd.prog 23 #[.int .i64 n,.int .u32 j] w fun e w'=>e = .returned (.int .i64 (whI n j)) ∧ w' = w:=by
  obtain ⟨f1,f2,f3,f4,f5,f6,f7,f8,f9⟩:=wh_facts n j h1 h2 j0 j1
  have hw:Hid (whI n j = n - 1 - n * (j * j / 4294967296) / 4294967296):=rfl
  go_enter Tryd.func23,Tryd.ntmps23
  go_wp2
  go_ret
  exact ⟨ret_int hw.out.symm,rfl⟩
set_option maxRecDepth 20000 in
theorem rwhich_any (n j:Int) (h1:1 ≤ n) (h2:n ≤ 2147483647) (j0:0 ≤ j) (j1:j ≤ 4294967295) (w:World):Calls Tryd.prog 66 #[.int .i64 n,.int .u32 j] w fun e w'=>e = .returned (.int .i64 (whI n j)) ∧ w' = w:=by
  obtain ⟨f1,f2,f3,f4,f5,f6,f7,f8,f9⟩:=wh_facts n j h1 h2 j0 j1
  have hw:Hid (whI n j = n - 1 - n * (j * j / 4294967296) / 4294967296):=rfl
  go_enter Tryd.func66,Tryd.ntmps66
  go_wp2
  go_ret
  exact ⟨ret_int hw.out.symm,rfl⟩
end Go.Proofs.YtfbmeclpcgdmhabDoor
