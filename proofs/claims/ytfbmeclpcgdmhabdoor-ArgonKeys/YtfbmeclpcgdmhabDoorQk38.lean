/-
  What must come of every program: lengths, refusals, the first and the last page of a window. The document's long digests, for every length and all bytes.
-/
import Derived.Test.YtfbmeclpcgdmhabDoorQk22
import Derived.Test.YtfbmeclpcgdmhabDoorQk19
import Derived.Test.YtfbmeclpcgdmhabDoorQk1
import Derived.Test.YtfbmeclpcgdmhabDoorQk37
namespace Go.Proofs.YtfbmeclpcgdmhabDoor
set_option maxRecDepth 20000
open Go.RowKit Go.BigFrame
end Go.Proofs.YtfbmeclpcgdmhabDoor
namespace Go.Proofs.YtfbmeclpcgdmhabDoor
set_option maxRecDepth 20000
open Go.RowKit Go.BigFrame
theorem cat0 (b:Nat → BitVec 8):catF (fun _=>0#8) 0 b = b:=by
  funext j
  unfold catF
  rw [if_neg (by omega)]
  rfl
theorem rplain (nn l:Nat) (hn1:1 ≤ nn) (hn2:nn ≤ 64) (mv:Value) (b:Nat → BitVec 8) (w:World) (hM:BV mv l b w) (hl:l ≤ 140737488355000):
    Calls Tryd.prog 44 #[.int .i64 (nn:Int),.slice none 0 0,mv] w fun e w'=>∃ v',e = .returned (.tuple #[v',.int .i64 0]) ∧ OwnB w.heap.size 5 v' nn (yv (bF nn b l)) w' ∧ Ext w w':=by
  have h:=rsum_any nn 0 l hn1 hn2 (by omega) (.slice none 0 0) mv (fun _=>0#8) b w (nil_bv w) hM hl
  rw [key0,show keyN 0 = 0 from rfl,Nat.zero_add,cat0] at h
  exact h
set_option maxRecDepth 20000 in
theorem rfour_any (n:Nat) (hn:n ≤ 4611686018427387904) (w:World):
    Calls Tryd.prog 33 #[.int .i64 (n:Int)] w fun e w'=>∃ v,e = .returned v ∧ OwnB w.heap.size 5 v 4 (yv (fourB n)) w' ∧ Ext w w':=by
  have n0:(0:Int) ≤ (n:Int):=by omega
  have n1:(n:Int) ≤ 4611686018427387904:=by omega
  have q0:IntKind.u8.wrap (n:Int) = ((fourB n 0).toNat:Int):=by unfold fourB; rw [wrap8]; simp
  have q1:IntKind.u8.wrap ((n:Int) / 256) = ((fourB n 1).toNat:Int):=by unfold fourB; rw [← wrap8]; rfl
  have q2:IntKind.u8.wrap ((n:Int) / 65536) = ((fourB n 2).toNat:Int):=by unfold fourB; rw [← wrap8]; rfl
  have q3:IntKind.u8.wrap ((n:Int) / 16777216) = ((fourB n 3).toNat:Int):=by unfold fourB; rw [← wrap8]; rfl
  obtain ⟨f,hf⟩:∃ f,f = fourB n:=⟨_,rfl⟩
  rw [← hf] at q0 q1 q2 q3 ⊢
  clear hf
  go_enter Tryd.func33,Tryd.ntmps33
  go_wp2
  go_ret
  refine ⟨_,rfl,?_,(Below.refl _ _).alloc (Nat.le_refl _) _⟩
  exact ⟨by rw [row_length],.inr ⟨w.heap.size,4,#[.int .u8 ((f 0).toNat:Int),.int .u8 ((f 1).toNat:Int),.int .u8 ((f 2).toNat:Int),.int .u8 ((f 3).toNat:Int)],rfl,Nat.le_refl _,heap_alloc_new w _,Nat.le_refl _,by unfold maxLen; omega,rfl,rfl⟩⟩
def vL (N i:Nat):Nat:=if i = 0 then 4 + N else 64
def vF (n:Nat) (m:Nat → BitVec 8) (N i:Nat):Nat → BitVec 8:=if i = 0 then catF (fourB n) 4 m else Vd n m N (i - 1)
theorem vL_succ (N i:Nat):vL N (i + 1) = 64:=by unfold vL; rw [if_neg (by omega)]
theorem vF_succ (n:Nat) (m:Nat → BitVec 8) (N i:Nat):vF n m N (i + 1) = Vd n m N i:=by unfold vF; rw [if_neg (by omega),Nat.add_sub_cancel]
theorem vd_zero (n:Nat) (m:Nat → BitVec 8) (N:Nat) (h:n ≤ 64):Vd n m N 0 = bF n (catF (fourB n) 4 m) (4 + N):=by
  show bF (min n 64) (catF (fourB n) 4 m) (4 + N) = _
  rw [show min n 64 = n by omega]
theorem v_next (n:Nat) (m:Nat → BitVec 8) (N i:Nat) (h:32 * i + 64 ≤ n):bF 64 (vF n m N i) (vL N i) = Vd n m N i:=by
  cases i with
  | zero=>
    show bF 64 (catF (fourB n) 4 m) (4 + N) = bF (min n 64) (catF (fourB n) 4 m) (4 + N)
    rw [show min n 64 = 64 by omega]
  | succ i=>
    rw [vL_succ,vF_succ]
    show bF 64 (Vd n m N i) 64 = bF (min (n - 32 * (i + 1)) 64) (Vd n m N i) 64
    rw [show min (n - 32 * (i + 1)) 64 = 64 by omega]
theorem v_last (n:Nat) (m:Nat → BitVec 8) (N i:Nat) (h0:0 < i) (h:n ≤ 32 * i + 64):bF (n - 32 * i) (vF n m N i) (vL N i) = Vd n m N i:=by
  cases i with
  | zero=>omega
  | succ i=>
    rw [vL_succ,vF_succ]
    show bF (n - 32 * (i + 1)) (Vd n m N i) 64 = bF (min (n - 32 * (i + 1)) 64) (Vd n m N i) 64
    rw [show min (n - 32 * (i + 1)) 64 = n - 32 * (i + 1) by omega]
set_option maxRecDepth 20000 in
set_option maxHeartbeats 4000000 in
theorem rlong_any (n N:Nat) (hn1:1 ≤ n) (hn2:n ≤ 65536) (mv:Value) (m:Nat → BitVec 8) (w:World) (hM:BV mv N m w) (hN:N ≤ 140737488350000):
    Calls Tryd.prog 32 #[.int .i64 (n:Int),mv] w fun e w'=>∃ v,e = .returned (.tuple #[v,.int .i64 0]) ∧ OwnB w.heap.size 5 v n (yv (longF n m N)) w' ∧ Ext w w':=by
  obtain ⟨om,cm,rfl⟩:=hM.form
  replace hM:=hideit hM
  have n0:(1:Int) ≤ (n:Int):=by omega
  have n1:(n:Int) ≤ 65536:=by omega
  go_enter Tryd.func32,Tryd.ntmps32
  go_upto_region 3 with (fail)
  refine wp_region_lit ?_
  refine wpList_run rfl (.int .i64 (n:Int)) (by simp [go_sem]) ?_
  simp only [jk,jq,jv,jy]
  refine wpList_call rfl (by simp [go_sem]) ((rfour_any n (by omega) w).mono ?_)
  rintro e w1 ⟨v1,rfl,hO1,hE1⟩
  refine ⟨_,rfl,?_⟩
  obtain ⟨o1,c1,rfl⟩:=hO1.bv.form
  simp only [jk,jq,jv,jy]
  refine wpList_run rfl (.slice om N cm) (by simp [go_sem]) ?_
  simp only [jk,jq,jv,jy]
  refine wpList_growV (n:=4) (base:=w.heap.size) elem22 rfl (.tmp 18) (.tmp 19) rfl rfl hO1 (.slice om N cm) N m (yv (catF (fourB n) 4 m)) rfl (hM.out.ext hE1) (fun j hj=>by simp only [yv]; unfold catF; rw [if_pos hj]) (fun j hj=>by simp only [yv]; unfold catF; rw [if_neg (by omega),Nat.add_sub_cancel_left]) (by omega) (Below.size hE1) ?_
  intro v2 w2 hO2 hg2
  have hE2:=hideit (Below.trans hE1 (below_grown (Below.size hE1) hg2 fun k hk=>(hO1.lt k hk).1))
  have hB2:=hideit hO2.bv
  obtain ⟨o2,c2,rfl⟩:=hO2.bv.form
  clear hO1 hE1 hg2 hO2 hM
  simp only [jk,jq,jv,jy]
  by_cases h64:n ≤ 64
  · have n2:(n:Int) ≤ 64:=by omega
    have hs:=rplain n (4 + N) hn1 h64 _ _ w2 hB2.out (by omega)
    have hcg:Hid (∀ v X,OwnB w2.heap.size 5 v n (yv (bF n (catF (fourB n) 4 m) (4 + N))) X → OwnB w.heap.size 5 v n (yv (longF n m N)) X):=fun v X h=>(h.down (Below.size hE2.out)).congr fun j hj=>by
      simp only [yv]
      unfold longF
      rw [show rN n = 0 by unfold rN; omega,if_neg (by omega),vd_zero n m N h64,Nat.mul_zero,Nat.sub_zero]
    replace hs:=hideit hs
    go_wp2_with (go_at_call 44; refine hs.out.mono ?_; rintro e w3 ⟨v3,rfl,hO3,hE3⟩; have hO4:=hideit (hcg.out _ _ hO3); replace hE3:=hideit (Ext.trans hE2.out hE3); clear hO3)
    go_ret2
    exact ⟨_,rfl,hO4.out,hE3.out⟩
  · have n2:(64:Int) < (n:Int):=by omega
    obtain ⟨R,hR⟩:∃ R,R = rN n:=⟨_,rfl⟩
    have hR1:1 ≤ R ∧ n ≤ 32 * R + 64 ∧ 32 * R + 32 < n:=by unfold rN at hR; omega
    have hRI:((n:Int) + 31) / 32 - 2 = (R:Int):=by unfold rN at hR; omega
    have hlf:Hid (∀ j,longF n m N j = if j < 32 * R then Vd n m N (j / 32) (j % 32) else Vd n m N R (j - 32 * R)):=fun j=>by rw [hR]; rfl
    clear hR
    have hB0:Hid (BV (.slice o2 (4 + N) c2) (vL N 0) (vF n m N 0) w2):=hB2.out
    clear hB2
    go_wp2
    go_loopw [8,9,10] (fun ou v ix wr=>∃ i:Nat,i ≤ R ∧ ix = .int .i64 (i:Int) ∧ BV v (vL N i) (vF n m N i) wr ∧ OwnB w.heap.size 5 ou (32 * i) (yv (longF n m N)) wr ∧ Ext w wr) (fun _ _ ix _=>R - (intOf ix).toNat)
    case atStart=>exact ⟨0,Nat.zero_le _,rfl,hB0.out,own_nil _ _ _ _,hE2.out⟩
    case round=>
      clear hB0 hE2
      obtain ⟨i,hi,rfl,hB,hL,hE⟩:=hrel
      obtain ⟨ob,cb,rfl⟩:=hB.form
      obtain ⟨ol,cl,rfl⟩:=hL.bv.form
      replace hB:=hideit hB
      replace hL:=hideit hL
      replace hE:=hideit hE
      have i0:(0:Int) ≤ (i:Int):=by omega
      have hvl:vL N i ≤ 140737488355000:=by unfold vL; split <;> omega
      by_cases hlt:i < R
      · have i1:(i:Int) < (R:Int):=by omega
        have hs:=rplain 64 (vL N i) (by omega) (by omega) _ _ wr hB.out hvl
        rw [v_next n m N i (by omega)] at hs
        replace hs:=hideit hs
        go_upto_region 13 with (go_at_call 44; refine hs.out.mono ?_; rintro e w3 ⟨v3,rfl,hO3,hE3⟩; have hL3:=hideit (hL.out.ext hE3); have hE3':=hideit (Ext.trans hE.out hE3); have hlt3:=hideit (fun k (hk:(Value.slice ol (32 * i) cl).ownBlock = some k)=>(hL.out.lt k hk).2); replace hO3:=hideit hO3; clear hE3)
        obtain ⟨b,cd,hv,hb,hcd,_,hRw⟩:=hO3.out.lies (by omega)
        subst hv
        have c32:(32:Int) ≤ (cd:Int):=by omega
        have hB32:Hid (BV (.slice (some ⟨b,0,none⟩) 32 cd) 32 (Vd n m N i) w3):=.inr ⟨_,cd,rfl,by omega,hRw.lie 32 (by omega)⟩
        have hne:Hid ((Value.slice (some ⟨b,0,none⟩) 64 cd).ownBlock ≠ (Value.slice ol (32 * i) cl).ownBlock):=fun h=>by
          have h1:=hlt3.out b (by rw [← h]; rfl)
          omega
        clear hRw hs hL hE hB
        refine wp_region_lit ?_
        refine wpList_run rfl (.slice ol (32 * i) cl) (by simp [go_sem]) ?_
        simp only [jk,jq,jv,jy]
        refine wpList_run rfl (.slice (some ⟨b,0,none⟩) 64 cd) (by simp [go_sem]) ?_
        simp only [jk,jq,jv,jy]
        refine wpList_run rfl (.slice (some ⟨b,0,none⟩) 32 cd) (by simp [go_sem,c32]) ?_
        simp only [jk,jq,jv,jy]
        refine wpList_growV (n:=32 * i) (base:=w.heap.size) elem22 rfl (.tmp 43) (.tmp 45) rfl rfl hL3.out (.slice (some ⟨b,0,none⟩) 32 cd) 32 (Vd n m N i) (yv (longF n m N)) rfl hB32.out (fun _ _=>rfl) (fun j hj=>by simp only [yv]; rw [hlf.out,if_pos (by omega),show (32 * i + j) / 32 = i by omega,show (32 * i + j) % 32 = j by omega]) (by omega) (Below.size hE3'.out) ?_
        intro v6 w6 hO6 hg6
        have hE6:=hideit (Below.trans hE3'.out (below_grown (Below.size hE3'.out) hg6 fun k hk=>(hL3.out.lt k hk).1))
        have hD6:=hideit (hO3.out.kept hg6 (.inr hne.out)).bv
        replace hO6:=hideit hO6
        obtain ⟨o6,c6,rfl⟩:=hO6.out.bv.form
        clear hg6 hB32 hL3 hE3' hne hO3 hlt3
        simp only [jk,jq,jv,jy]
        go_wp2
        refine ⟨⟨i + 1,by omega,by go_num,?_,hO6.out,hE6.out⟩,by simp [intOf]; omega⟩
        rw [vL_succ,vF_succ]
        exact hD6.out
      · have i1:¬ (i:Int) < (R:Int):=by omega
        have hiR:i = R:=by omega
        have hRn:(32:Int) * (R:Int) ≤ 65536:=by omega
        have hs:=rplain (n - 32 * R) (vL N i) (by omega) (by omega) _ _ wr hB.out hvl
        have hv:bF (n - 32 * R) (vF n m N i) (vL N i) = Vd n m N R:=by rw [hiR]; exact v_last n m N R (by omega) (by omega)
        rw [hv,show ((n - 32 * R:Nat):Int) = (n:Int) - 32 * (R:Int) by omega] at hs
        clear hv
        replace hs:=hideit hs
        replace hiR:=hideit hiR
        have hL':Hid (OwnB w.heap.size 5 (.slice ol (32 * i) cl) (32 * i) (yv (longF n m N)) wr):=hL.out
        go_upto_region 15 with (go_at_call 44; refine hs.out.mono ?_; rintro e w3 ⟨v3,rfl,hO3,hE3⟩; have hL3:=hideit (hL'.out.ext hE3); have hE3':=hideit (Ext.trans hE.out hE3); replace hO3:=hideit hO3; clear hE3)
        obtain ⟨o3,c3,rfl⟩:=hO3.out.bv.form
        have hsum:32 * i + (n - 32 * R) = n:=by have:=hiR.out; omega
        have hf2:Hid (∀ j,j < n - 32 * R → yv (Vd n m N R) j = yv (longF n m N) (32 * i + j)):=fun j hj=>by
          simp only [yv]
          rw [hlf.out,if_neg (by have:=hiR.out; omega),hiR.out,Nat.add_sub_cancel_left]
        clear hs hL' hL hE hB
        refine wp_region_lit ?_
        refine wpList_run rfl (.slice ol (32 * i) cl) (by simp [go_sem]) ?_
        simp only [jk,jq,jv,jy]
        refine wpList_run rfl (.slice o3 (n - 32 * R) c3) (by simp [go_sem]) ?_
        simp only [jk,jq,jv,jy]
        refine wpList_growV (n:=32 * i) (base:=w.heap.size) elem22 rfl (.tmp 56) (.tmp 57) rfl rfl hL3.out (.slice o3 (n - 32 * R) c3) (n - 32 * R) (Vd n m N R) (yv (longF n m N)) rfl hO3.out.bv (fun _ _=>rfl) hf2.out (by omega) (Below.size hE3'.out) ?_
        intro v6 w6 hO6 hg6
        have hE6:=hideit (Below.trans hE3'.out (below_grown (Below.size hE3'.out) hg6 fun k hk=>(hL3.out.lt k hk).1))
        rw [hsum] at hO6
        replace hO6:=hideit hO6
        obtain ⟨o6,c6,rfl⟩:=hO6.out.bv.form
        clear hg6 hL3 hE3' hO3 hf2 hsum hiR
        simp only [jk,jq,jv,jy]
        go_wp2
        go_ret2
        exact ⟨_,rfl,hO6.out,hE6.out⟩
end Go.Proofs.YtfbmeclpcgdmhabDoor
