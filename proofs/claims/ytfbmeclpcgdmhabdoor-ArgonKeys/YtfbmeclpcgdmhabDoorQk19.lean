/-
  Bytes, nil or not, appended to a slice of the call's own. Parts one behind the other: slices.Concat of two lists of parts, and the four bytes of a number.
-/
import Derived.Test.YtfbmeclpcgdmhabDoorQk13
import Derived.Test.YtfbmeclpcgdmhabDoorQk1
import Derived.Test.YtfbmeclpcgdmhabDoorQk18
import Derived.Lib.AppendZeros
namespace Go.Proofs.YtfbmeclpcgdmhabDoor
open Go.RowKit Go.BigFrame
theorem grown_refl (w:World) (r:Option Nat):w.grownBy w r:=⟨rfl,rfl,rfl,Nat.le_refl _,fun _ _ _=>rfl⟩
theorem BV.grown {v:Value} {l:Nat} {b:Nat → BitVec 8} {w X:World} {row:Option Nat} (h:BV v l b w) (hg:w.grownBy X row) (hne:∀ k,row = some k → ∀ a n c,v = .slice (some a) n c → a.block ≠ k):BV v l b X:=by
  rcases h with h | ⟨a,cap,h1,h2,h3⟩
  · exact .inl h
  · refine .inr ⟨a,cap,h1,h2,fun j hj=>?_,Nat.lt_of_lt_of_le h3.2 hg.size⟩
    have hb:=hg.block a.block h3.2 (fun e=>hne a.block e.symm a l cap h1 rfl)
    exact (World.cell?_of_block (a:=a.add j) (by rw [add_block]; exact hb)).trans (h3.1 j hj)
theorem wpList_growV {P:Program} {ops:Array Oper} {rest:List Oper} {o:Oper} {a:Act} {Q:Exit → Act → World → Prop} {t e:TypeId} {base n:Nat} {v:Value} {g:Nat → Value} {w:World} (E:ElemIs P t e) (hgd:o.guard = none) (s x:Operand)
    (ho:o.op = .call { callee:=.builtin .append,args := #[s,x],argTypes := #[t,t] }) (hs:a.eval s = v) (hown:OwnB base e v n g w)
    (xv:Value) (l:Nat) (b:Nat → BitVec 8) (f:Nat → Value) (hx:a.eval x = xv) (hb:BV xv l b w) (hf1:∀ j,j < n → g j = f j) (hf2:∀ j,j < l → yv b j = f (n + j))
    (hbytes:n + l ≤ 140737488355328) (hbase:base ≤ w.heap.size)
    (h:∀ v' w',OwnB base e v' (n + l) f w' → w.grownBy w' v.ownBlock → wpList P ops Q rest (a.put o.dst v') w'):wpList P ops Q (o :: rest) a w:=by
  rcases hb with ⟨rfl,rfl⟩ | ⟨ad,cap,rfl,h2,h3⟩
  · exact wpList_grow_none E hgd s x ho hs hown hx (h v w (hown.congr hf1) (grown_refl _ _))
  · exact wpList_grow E hgd s x ho hs hown ad l cap (yv b) f hx h3 (fun _ _=>rfl) hf1 hf2 hbytes hbase h
end Go.Proofs.YtfbmeclpcgdmhabDoor
namespace Go.Proofs.YtfbmeclpcgdmhabDoor
open Go.RowKit Go.BigFrame
def fourB (n j:Nat):BitVec 8:=BitVec.ofNat 8 (n / 2 ^ (8 * j))
theorem wrap8 (n:Nat):IntKind.u8.wrap (n:Int) = ((BitVec.ofNat 8 n).toNat:Int):=by
  rw [IntKind.wrap_u8,BitVec.toNat_ofNat]
  omega
set_option maxRecDepth 20000 in
theorem number_any (n:Nat) (hn:n ≤ 4611686018427387904) (w:World):
    Calls Tryd.prog 49 #[.int .i64 (n:Int)] w fun e w'=>∃ g,e = .returned (.slice (some ⟨g,0,none⟩) 4 4) ∧ w.heap.size ≤ g ∧ BV (.slice (some ⟨g,0,none⟩) 4 4) 4 (fourB n) w' ∧ Ext w w':=by
  have n0:(0:Int) ≤ (n:Int):=by omega
  have n1:(n:Int) ≤ 4611686018427387904:=by omega
  have q0:IntKind.u8.wrap (n:Int) = ((fourB n 0).toNat:Int):=by unfold fourB; rw [wrap8]; simp
  have q1:IntKind.u8.wrap ((n:Int) / 256) = ((fourB n 1).toNat:Int):=by unfold fourB; rw [← wrap8]; rfl
  have q2:IntKind.u8.wrap ((n:Int) / 65536) = ((fourB n 2).toNat:Int):=by unfold fourB; rw [← wrap8]; rfl
  have q3:IntKind.u8.wrap ((n:Int) / 16777216) = ((fourB n 3).toNat:Int):=by unfold fourB; rw [← wrap8]; rfl
  obtain ⟨f,hf⟩:∃ f,f = fourB n:=⟨_,rfl⟩
  rw [← hf] at q0 q1 q2 q3 ⊢
  clear hf
  go_enter Tryd.func49,Tryd.ntmps49
  go_wp2
  go_ret
  refine ⟨w.heap.size,rfl,Nat.le_refl _,?_⟩
  exact newB w _ 4 f fun j hj=>by
    rcases (by omega:j = 0 ∨ j = 1 ∨ j = 2 ∨ j = 3) with rfl | rfl | rfl | rfl <;> rfl
theorem elem47:ElemB Tryd.prog 68 32 24:=elem_b Tryd.underlying68 (by kernel_rfl) (by kernel_rfl) (by kernel_rfl)
theorem info22:∃ i,Tryd.prog.info? 32 = some i ∧ i.zero = some (.slice none 0 0) ∧ i.size = 1 ∧ i.bytes = 24:=by
  have h:(Tryd.prog.info? 32).map (fun i=>(i.zero,i.size,i.bytes)) = some (some (.slice none 0 0),1,24):=by kernel_rfl
  cases hi:Tryd.prog.info? 32 with
  | none=>rw [hi] at h; cases h
  | some i=>
    rw [hi] at h
    simp only [Option.map_some,Option.some.injEq,Prod.mk.injEq] at h
    exact ⟨i,rfl,h.1,h.2.1,h.2.2⟩
set_option maxRecDepth 20000 in
theorem grow_nil (m:Nat) (h0:0 < m) (hm:m ≤ 4398046511104) (g:Nat → Value) (w:World):
    Calls Tryd.prog 63 #[.slice none 0 0,.int .i64 (m:Int)] w fun e w'=>∃ v,e = .returned v ∧ OwnB w.heap.size 32 v 0 g w' ∧ Ext w w':=by
  obtain ⟨i,i1,i2,i3,i4⟩:=info22
  have hap:=Go.Lib.run_append_nil_zeros (P:=Tryd.prog) w 68 3 68 32 i (.slice none 0 0) .i64 .i64 Tryd.underlying68 Tryd.underlying3 i1 i2 m h0 (by omega) (by omega) (by rw [i4]; omega)
  have hge:=grownCap_ge w m 0 32
  have hcm:grownCap w m 0 32 ≤ maxLen:=grownCap_le_maxLen w m 0 32 (by unfold maxLen; omega)
  obtain ⟨cp,hcp⟩:∃ cp,cp = grownCap w m 0 32:=⟨_,rfl⟩
  rw [← hcp] at hap hge hcm
  have hz:Builtin.zeroCells (Value.slice none 0 0).cells m ++ Builtin.zeroCells (Value.slice none 0 0).cells (cp - m) = (row cp fun _=>.slice none 0 0).toArray:=by
    rw [show (Value.slice none 0 0).cells = #[.slice none 0 0] from rfl,zeroCellsE,zeroCellsE]
    apply Array.ext'
    rw [Array.toList_append]
    have:=row_append m (cp - m) (fun _=>(.slice none 0 0:Value)) (fun _=>.slice none 0 0) (fun _=>.slice none 0 0) (fun _ _=>rfl) (fun _ _=>rfl)
    rwa [show m + (cp - m) = cp by omega] at this
  rw [hz] at hap
  have hO:Hid (OwnB w.heap.size 32 (.slice (some ⟨w.heap.size,0,none⟩) 0 cp) 0 g (w.drew.alloc (.cells (row cp fun _=>.slice none 0 0).toArray 32))):=
    ⟨by simp [row],.inr ⟨w.heap.size,cp,(row cp fun _=>.slice none 0 0).toArray,rfl,Nat.le_refl _,heap_alloc_new w.drew _,Nat.zero_le _,hcm,by rw [row_size,Nat.mul_one],by simp [row]⟩⟩
  have hE:Hid (Ext w (w.drew.alloc (.cells (row cp fun _=>.slice none 0 0).toArray 32))):=Below.alloc (Ext.draw (Ext.refl w)) (Nat.le_refl _) _
  have m0:(0:Int) ≤ (m:Int):=by omega
  have m1:(0:Int) < (m:Int):=by omega
  have m2:(m:Int) ≤ 4398046511104:=by omega
  clear hcp hz i1 i2 i3 i4 hcm
  generalize w.drew.alloc (.cells (row cp fun _=>.slice none 0 0).toArray 32) = X at *
  go_enter Tryd.func63,Tryd.ntmps63
  go_upto_region 5 with (fail)
  refine wp_region_lit ?_
  refine wpList_run rfl (.slice none 0 0) (by simp [go_sem]) ?_
  simp only [jk,jq,jv,jy]
  refine wpList_run rfl (.slice none 0 0) (by simp [go_sem]) ?_
  simp only [jk,jq,jv,jy]
  refine wpList_run rfl (.int .i64 0) (by simp [go_sem]) ?_
  simp only [jk,jq,jv,jy]
  refine wpList_run rfl (.slice none 0 0) (by simp [go_sem]) ?_
  simp only [jk,jq,jv,jy]
  refine wpList_run rfl (.int .i64 (m:Int)) (by simp [go_sem]) ?_
  simp only [jk,jq,jv,jy]
  refine wpList_appN rfl (.tmp 20) (.tmp 21) 68 3 rfl (.slice none 0 0) (.int .i64 (m:Int)) (.slice (some ⟨w.heap.size,0,none⟩) m cp) X rfl rfl hap ?_
  simp only [jk,jq,jv,jy]
  have c0:(0:Int) ≤ (cp:Int):=by omega
  clear hap
  go_wp2
  go_ret
  exact ⟨_,rfl,hO.out,hE.out⟩
def twoV (a b:Value) (j:Nat):Value:=if j = 0 then a else b
def catV (f:Nat → Value) (n:Nat) (g:Nat → Value) (j:Nat):Value:=if j < n then f j else g (j - n)
set_option maxRecDepth 20000 in
set_option maxHeartbeats 2000000 in
theorem concat_any (ca m1 c1 m2 c2:Nat) (A1:Addr) (o2:Option Addr) (us1 us2:Nat → Value) (w:World) (hL:LieAt ⟨ca,0,none⟩ 2 (twoV (.slice (some A1) m1 c1) (.slice o2 m2 c2)) w) (h1:LieAt A1 m1 us1 w)
    (h2:(o2 = none ∧ m2 = 0 ∧ c2 = 0) ∨ ∃ a,o2 = some a ∧ LieAt a m2 us2 w) (k1:∀ j,j < m1 → (us1 j).oneCell' = true) (k2:∀ j,j < m2 → (us2 j).oneCell' = true) (h0:0 < m1) (hm:m1 + m2 ≤ 4398046511104):
    Calls Tryd.prog 48 #[.slice (some ⟨ca,0,none⟩) 2 2] w fun e w'=>∃ v,e = .returned v ∧ OwnB w.heap.size 32 v (m1 + m2) (catV us1 m1 us2) w' ∧ Ext w w':=by
  have a0:=hL.1 0 (by decide)
  have a1:=hL.1 1 (by decide)
  replace a0:w.cell? ⟨ca,0,none⟩ = some (.slice (some A1) m1 c1):=a0
  replace a1:w.cell? ⟨ca,1,none⟩ = some (.slice o2 m2 c2):=a1
  have hlc:=hideit hL.2
  replace h1:=hideit h1
  replace h2:=hideit h2
  replace k1:=hideit k1
  replace k2:=hideit k2
  have m10:(0:Int) ≤ (m1:Int):=by omega
  have m20:(0:Int) ≤ (m2:Int):=by omega
  have m3:(m1:Int) + (m2:Int) ≤ 4398046511104:=by omega
  clear hL
  go_enter Tryd.func48,Tryd.ntmps48
  go_wp2
  go_loop [3,11] (fun s i=>(s = .int .i64 0 ∧ i = .int .i64 0) ∨ (s = .int .i64 (m1:Int) ∧ i = .int .i64 1) ∨ (s = .int .i64 ((m1:Int) + (m2:Int)) ∧ i = .int .i64 2)) (fun _ i=>2 - (intOf i).toNat)
  case atStart=>exact .inl ⟨rfl,rfl⟩
  case round=>
    rcases hrel with ⟨rfl,rfl⟩ | ⟨rfl,rfl⟩ | ⟨rfl,rfl⟩
    · go_wp2
      go_round
      case rel=>exact .inr (.inl ⟨by go_num,by go_num⟩)
      case measure=>simp [intOf]
    · go_wp2
      go_round
      case rel=>exact .inr (.inr ⟨by go_num,by go_num⟩)
      case measure=>simp [intOf]
    · have hg:=grow_nil (m1 + m2) (by omega) hm (catV us1 m1 us2) w
      rw [show ((m1 + m2:Nat):Int) = (m1:Int) + (m2:Int) by omega] at hg
      replace hg:=hideit hg
      go_wp2_with (go_at_call 63; refine hg.out.mono ?_; rintro e w1 ⟨v1,rfl,hO1,hE1⟩; replace hO1:=hideit hO1; replace hE1:=hideit hE1)
      go_loopw [6,27] (fun v i wr=>Ext w wr ∧ ((OwnB w.heap.size 32 v 0 (catV us1 m1 us2) wr ∧ i = .int .i64 0) ∨ (OwnB w.heap.size 32 v m1 (catV us1 m1 us2) wr ∧ i = .int .i64 1) ∨ (OwnB w.heap.size 32 v (m1 + m2) (catV us1 m1 us2) wr ∧ i = .int .i64 2))) (fun _ i _=>2 - (intOf i).toNat)
      case atStart=>exact ⟨hE1.out,.inl ⟨hO1.out,rfl⟩⟩
      case round=>
        clear hO1 hE1 hg
        obtain ⟨hE,hrel⟩:=hrel
        have b0:=(hE.cell (p:=⟨ca,0,none⟩) hlc.out).trans a0
        have b1:=(hE.cell (p:=⟨ca,1,none⟩) hlc.out).trans a1
        replace hE:=hideit hE
        rcases hrel with ⟨hO,rfl⟩ | ⟨hO,rfl⟩ | ⟨hO,rfl⟩
        · replace hO:=hideit hO
          go_upto_region 13 with (fail)
          refine wp_region_lit ?_
          refine wpList_run rfl _ rfl ?_
          simp only [jk,jq,jv,jy]
          refine wpList_run rfl (.slice (some A1) m1 c1) (by simp [go_sem]) ?_
          simp only [jk,jq,jv,jy]
          refine wpList_growE (n:=0) (base:=w.heap.size) elem47 rfl (.tmp 31) (.tmp 32) rfl rfl hO.out A1 m1 c1 us1 (catV us1 m1 us2) rfl (h1.out.carry hE.out) k1.out (fun _ _=>rfl) (fun j hj=>by rw [Nat.zero_add]; unfold catV; rw [if_pos hj]) (by omega) (by omega) (Below.size hE.out) ?_
          intro v' X hO' hg'
          rw [Nat.zero_add] at hO'
          have hE':=hideit (Below.trans hE.out (below_grown (Below.size hE.out) hg' fun k hk=>(hO.out.lt k hk).1))
          replace hO':=hideit hO'
          clear hO hg' hE b0 b1
          simp only [jk,jq,jv,jy]
          go_wp2
          exact ⟨⟨hE'.out,.inr (.inl ⟨hO'.out,by go_num⟩)⟩,by simp [intOf]⟩
        · replace hO:=hideit hO
          go_upto_region 13 with (fail)
          refine wp_region_lit ?_
          refine wpList_run rfl _ rfl ?_
          simp only [jk,jq,jv,jy]
          refine wpList_run rfl (.slice o2 m2 c2) (by simp [go_sem]) ?_
          simp only [jk,jq,jv,jy]
          rcases h2.out with ⟨rfl,rfl,rfl⟩ | ⟨A2,rfl,h2'⟩
          · refine wpList_growE_none elem47 rfl (.tmp 31) (.tmp 32) rfl rfl hO.out rfl ?_
            simp only [jk,jq,jv,jy]
            go_wp2
            exact ⟨⟨hE.out,.inr (.inr ⟨hO.out,by go_num⟩)⟩,by simp [intOf]⟩
          · refine wpList_growE (n:=m1) (base:=w.heap.size) elem47 rfl (.tmp 31) (.tmp 32) rfl rfl hO.out A2 m2 c2 us2 (catV us1 m1 us2) rfl (h2'.carry hE.out) k2.out (fun _ _=>rfl) (fun j hj=>by unfold catV; rw [if_neg (by omega),Nat.add_sub_cancel_left]) (by omega) (by omega) (Below.size hE.out) ?_
            intro v' X hO' hg'
            have hE':=hideit (Below.trans hE.out (below_grown (Below.size hE.out) hg' fun k hk=>(hO.out.lt k hk).1))
            replace hO':=hideit hO'
            clear hO hg' hE b0 b1
            simp only [jk,jq,jv,jy]
            go_wp2
            exact ⟨⟨hE'.out,.inr (.inr ⟨hO'.out,by go_num⟩)⟩,by simp [intOf]⟩
        · replace hO:=hideit hO
          go_wp2
          go_ret
          exact ⟨_,rfl,hO.out,hE.out⟩
end Go.Proofs.YtfbmeclpcgdmhabDoor
