/-
  append(s, make([]T, m)...): zeros behind a row of one's own; no word of the program. The document's digest of a message.
-/
import Derived.Test.YtfbmeclpcgdmhabDoorQk6
import Derived.Test.YtfbmeclpcgdmhabDoorQk1
import Derived.Test.YtfbmeclpcgdmhabDoorQk36
import Derived.Test.YtfbmeclpcgdmhabDoorQk18
import Derived.Test.YtfbmeclpcgdmhabDoorQk19
import Derived.Test.YtfbmeclpcgdmhabDoorQk16
namespace Go.Proofs.YtfbmeclpcgdmhabDoor
open Go.RowKit Go.BigFrame
theorem zeroCells_one (zv:Value) (m:Nat):Builtin.zeroCells #[zv] m = (row m fun _=>zv).toArray:=by
  apply Array.ext'
  simp only [Builtin.zeroCells,row]
  apply List.ext_getElem?
  intro i
  by_cases h:i < m
  · simp [h,Nat.mod_one]
  · simp [h]
section
variable {P:Program} (w:World)
theorem run_zeros (base:Nat) (t u ty e:TypeId) (i:TypeInfo) (z zv:Value) (ht:P.underlying t = some (.slice e)) (hu:P.underlying u = some (.int .i64)) (hi:P.info? e = some i) (hz:i.zero = some z)
    (hsize:i.size = 1) (hby:i.bytes = 1) (hzc:z.cells = #[zv]) (h1:zv.oneCell' = true)
    (g n cap:Nat) (xs:List Value) (hown:w.ownsRow base e 1 (.slice (some ⟨g,0,none⟩) n cap) n xs) (m:Nat) (hm:0 < m)
    (hbytes:n + m ≤ 140737488355328) (hbase:base ≤ w.heap.size):
    ∃ v' w',(Builtin.append_ #[t,u] ty #[.slice (some ⟨g,0,none⟩) n cap,.int .i64 (m:Int)]).run P w = .ok v' w' ∧ w'.ownsRow base e 1 v' (n + m) (xs ++ row m fun _=>zv) ∧ w.grownBy w' (some g):=by
  have h63:n + m ≤ maxLen:=by unfold maxLen; omega
  have hlr:(row m fun _=>zv).length = m:=row_length _ _
  have hlen:(xs ++ row m fun _=>zv).length = (n + m) * 1:=by rw [List.length_append,hown.1,hlr,Nat.mul_one,Nat.mul_one]
  have hzs:z.cells.size = 1:=by rw [hzc]; rfl
  have hwr:IntKind.i64.wrap (m:Int) = (m:Int):=by rw [IntKind.wrap_i64]; omega
  have hneg:¬ ((m:Int) < 0):=by omega
  have h48:¬ (281474976710656 < (m:Int)):=by omega
  have hm0:¬ (m = 0):=by omega
  have hall:∀ u ∈ (row m fun _=>zv),u.oneCell' = true:=fun u hu=>by
    obtain ⟨j,_,rfl⟩:=List.mem_map.1 hu
    exact h1
  have hzz:=zeroCells_one zv m
  rcases hown.2 with ⟨h,_⟩ | ⟨g',cap',cur,h,hbg,hg,hnc,hcm,hcs,htake⟩
  · cases h
  · injection h with e1 _ e3
    injection e1 with e1
    injection e1 with e1
    subst e1
    subst e3
    by_cases hroom:n + m ≤ cap
    · have hfit:n * i.size + (row m fun _=>zv).length ≤ cur.size:=by rw [hsize,hlr,hcs]; omega
      have hst:=run_storeCells_at P g (n * i.size) e (row m fun _=>zv) 0 cur w hg (by simpa using hfit) hall
      simp only [Nat.add_zero] at hst
      have hr:(Builtin.append_ #[t,u] ty #[.slice (some ⟨g,0,none⟩) n cap,.int .i64 (m:Int)]).run P w = .ok (.slice (some ⟨g,0,none⟩) (n + m) cap) (w.setRow g (cur.toList.take (n * i.size) ++ (row m fun _=>zv) ++ cur.toList.drop (n * i.size + (row m fun _=>zv).length)).toArray):=by
        simp only [hsize,Nat.mul_one,List.append_assoc] at hst ⊢
        simp [Builtin.append_,run_underlying ht,run_underlying hu,sizeOf,typeInfo,zeroValue,hi,hz,asInt,asIntOf,hwr,hneg,h48,hby,hsize,hm0,hzc,hzz,hroom,Addr.add_lit,hst]
      refine ⟨_,_,hr,⟨hlen,.inr ⟨g,cap,_,rfl,hbg,setRow_heap w g cur _ e _ hg,hroom,hcm,?_,?_⟩⟩,⟨rfl,rfl,rfl,by simp,fun k _ hk=>setRow_other w g k _ (fun e=>hk (by simp [e]))⟩⟩
      · simp only [List.size_toArray,List.length_append,List.length_take,List.length_drop,Array.length_toList]
        omega
      · rw [hsize,htake,← hlen]
        exact List.take_left
    · have holds:∀ j u,xs[j]? = some u → w.cell? ((⟨g,0,none⟩:Addr).add j) = some u:=hown.cells (g:=g) rfl
      have h63':¬ (9223372036854775807 < ((n:Int) + (m:Int))):=by omega
      have hfits:=growslice_fits (need:=n + m) (old:=cap) (bytes:=1) (by omega) (by omega)
      have h48':¬ (281474976710656 < Builtin.nextslicecap (n + m) cap):=by omega
      have hfo:=run_firstCells_some (P:=P) w.drew 1 n ⟨g,0,none⟩ n cap xs hown.1 (by simpa using holds)
      have hr:(Builtin.append_ #[t,u] ty #[.slice (some ⟨g,0,none⟩) n cap,.int .i64 (m:Int)]).run P w = .ok (.slice (some ⟨w.heap.size,0,none⟩) (n + m) (grownCap w (n + m) cap e)) (w.drew.alloc (.cells (xs.toArray ++ (row m fun _=>zv).toArray ++ Builtin.zeroCells #[zv] (grownCap w (n + m) cap e - (n + m))) e)):=by
        simp [Builtin.append_,run_underlying ht,run_underlying hu,sizeOf,typeInfo,zeroValue,hi,hz,asInt,asIntOf,hwr,hneg,h48,hby,hsize,hm0,hzc,hzz,hroom,h63',h48',Question.forced,hfo,newRow,grownCap]
        congr 2
        apply Array.ext'
        simp [List.append_assoc]
      have hge:=grownCap_ge w (n + m) cap e
      have hcm':grownCap w (n + m) cap e ≤ maxLen:=grownCap_le_maxLen w (n + m) cap e h63
      refine ⟨_,_,hr,⟨hlen,.inr ⟨w.heap.size,_,_,rfl,hbase,heap_alloc_new w.drew _,hge,hcm',?_,?_⟩⟩,⟨rfl,rfl,rfl,by simp,fun k hk _=>heap_alloc_old w.drew _ (by exact hk)⟩⟩
      · have h2:(Builtin.zeroCells #[zv] (grownCap w (n + m) cap e - (n + m))).size = grownCap w (n + m) cap e - (n + m):=by rw [size_zeroCells]; simp
        simp only [Array.size_append,List.size_toArray,h2,hown.1,hlr]
        omega
      · simp only [Array.toList_append,List.append_assoc]
        rw [← List.append_assoc,← hlen]
        exact List.take_left
theorem wpList_zeros {ops:Array Oper} {rest:List Oper} {o:Oper} {a:Act} {Q:Exit → Act → World → Prop} {t u e:TypeId} {base n:Nat} {v:Value} {g f:Nat → Value} (zv:Value) (i:TypeInfo) (z:Value) (ht:P.underlying t = some (.slice e)) (hu:P.underlying u = some (.int .i64)) (hi:P.info? e = some i) (hz:i.zero = some z)
    (hsize:i.size = 1) (hby:i.bytes = 1) (hzc:z.cells = #[zv]) (h1:zv.oneCell' = true) (hgd:o.guard = none) (s x:Operand)
    (ho:o.op = .call { callee:=.builtin .append,args := #[s,x],argTypes := #[t,u] }) (hs:a.eval s = v) (hown:OwnB base e v n g w) (hn:0 < n) (m:Nat) (hm:0 < m) (hx:a.eval x = .int .i64 (m:Int))
    (hf1:∀ j,j < n → g j = f j) (hf2:∀ j,j < m → zv = f (n + j)) (hbytes:n + m ≤ 140737488355328) (hbase:base ≤ w.heap.size)
    (h:∀ v' w',OwnB base e v' (n + m) f w' → w.grownBy w' v.ownBlock → wpList P ops Q rest (a.put o.dst v') w'):wpList P ops Q (o :: rest) a w:=by
  obtain ⟨b,cap,rfl,_⟩:=hown.lies hn
  refine wpList_plain hgd fun K hK=>?_
  obtain ⟨v',w',hr,h2,h3⟩:=run_zeros (P:=P) w base t u o.type e i z zv ht hu hi hz hsize hby hzc h1 b n cap (row n g) hown m hm hbytes hbase
  unfold Oper.wp execOp
  simp only [ho,resolve,invoke,builtin,Sem.run_bind,Sem.run_pure,Result.andThen_ok,List.map_toArray,List.map_cons,List.map_nil,hs,hx,hr]
  refine hK _ _ (h v' w' ?_ h3)
  unfold OwnB
  rwa [row_append n m g (fun _=>zv) f hf1 hf2] at h2
end
end Go.Proofs.YtfbmeclpcgdmhabDoor
namespace Go.Proofs.YtfbmeclpcgdmhabDoor
set_option maxRecDepth 20000
open Go.RowKit Go.BigFrame
structure RL (w:World) (d:Nat) (s:Nat → BitVec 64) (M:Nat → BitVec 8) (v:Value) (n:Nat) (X:World):Prop where
  own:OwnB (d + 1) 5 v n (yv M) X
  st:RowAt d 8 (wv s) X
  ext:Ext w X
  hd:w.heap.size ≤ d
theorem RL.grow {w X Y:World} {d n n':Nat} {s:Nat → BitVec 64} {M:Nat → BitVec 8} {v v':Value} (h:RL w d s M v n X) (hg:X.grownBy Y v.ownBlock) (ho:OwnB (d + 1) 5 v' n' (yv M) Y):RL w d s M v' n' Y:=by
  obtain ⟨h1,h2,h3,h4⟩:=h
  refine ⟨ho,h2.grown hg fun e=>?_,Below.trans h3 (below_grown (Below.size h3) hg fun k hk=>?_),h4⟩
  · have:=(h1.lt d e.symm).1
    omega
  · have:=(h1.lt k hk).1
    omega
theorem RL.alloc {w X:World} {d n:Nat} {s:Nat → BitVec 64} {M:Nat → BitVec 8} {v:Value} (h:RL w d s M v n X) (o:Obj):RL w d s M v n (X.alloc o):=
  ⟨h.own.alloc o,h.st.alloc o,Below.alloc h.ext (Below.size h.ext) o,h.hd⟩
structure SR (w:World) (d g N:Nat) (s:Nat → BitVec 64) (M:Nat → BitVec 8) (X:World):Prop where
  ext:Ext w X
  st:RowAt d 8 (wv s) X
  al:0 < N → RowAt g N (yv M) X
theorem SR.carry {w X Y:World} {d g N:Nat} {s:Nat → BitVec 64} {M:Nat → BitVec 8} (h:SR w d g N s M X) (k:Ext X Y):SR w d g N s M Y:=⟨Ext.trans h.ext k,h.st.carry k,fun e=>(h.al e).carry k⟩
theorem SR.setS {w X:World} {d g N:Nat} {s:Nat → BitVec 64} {M:Nat → BitVec 8} (h:SR w d g N s M X) (hd:w.heap.size ≤ d) (hg:0 < N → d ≠ g) (s':Nat → BitVec 64):SR w d g N s' M (X.setCells d 0 (row 8 (wv s'))):=⟨below_setCells d hd _ _ _ h.ext,h.st.cells,fun e=>(h.al e).cellsOther (hg e) _ _⟩
theorem SR.setP {w X:World} {d g N p i:Nat} {v:Value} {s:Nat → BitVec 64} {M:Nat → BitVec 8} (h:SR w d g N s M X) (h1:w.heap.size ≤ p) (h2:p ≠ d) (h3:0 < N → p ≠ g):SR w d g N s M (X.setCell ⟨p,i,none⟩ v):=⟨h.ext.setCell h1 _,h.st.other _ _ h2,fun e=>(h.al e).other _ _ (h3 e)⟩
theorem lie1 (w:World) (x:Int) (c:BitVec 8) (h:x = (c.toNat:Int)):LieAt ⟨w.heap.size,0,none⟩ 1 (yv fun _=>c) (w.alloc (.cells #[.int .u8 x] 5)):=
  lieNew w 1 _ 5 _ _ fun j hj=>by
    obtain rfl:j = 0:=by omega
    rw [h]
    rfl
theorem ty5:∃ i,Tryd.prog.info? 5 = some i ∧ i.zero = some (.int .u8 0) ∧ i.size = 1 ∧ i.bytes = 1:=by
  have h1:(Tryd.prog.info? 5).isSome = true:=by kernel_rfl
  obtain ⟨i,hi⟩:=Option.isSome_iff_exists.1 h1
  have a:(Tryd.prog.info? 5).bind (·.zero) = some (.int .u8 0):=by kernel_rfl
  have b:(Tryd.prog.info? 5).map (·.size) = some 1:=by kernel_rfl
  have c:(Tryd.prog.info? 5).map (·.bytes) = some 1:=by kernel_rfl
  rw [hi] at a b c
  exact ⟨i,hi,a,Option.some.inj b,Option.some.inj c⟩
set_option maxRecDepth 20000 in
set_option maxHeartbeats 8000000 in
theorem rsum_any (nn kl l:Nat) (hn1:1 ≤ nn) (hn2:nn ≤ 64) (hkl:kl ≤ 64) (kv mv:Value) (key b:Nat → BitVec 8) (w:World) (hK:BV kv kl key w) (hM0:BV mv l b w) (hl:l ≤ 140737488355000):
    Calls Tryd.prog 44 #[.int .i64 (nn:Int),kv,mv] w fun e w'=>∃ v',e = .returned (.tuple #[v',.int .i64 0]) ∧ OwnB w.heap.size 5 v' nn (yv (blakeF (h0F nn kl) (catF (keyF kl key) (keyN kl) b) (keyN kl + l))) w' ∧ Ext w w':=by
  obtain ⟨ok,ck,rfl⟩:=hK.form
  obtain ⟨om,cm,rfl⟩:=hM0.form
  have hKs:=hideit hK
  have hMs:=hideit hM0
  clear hK hM0
  have hz2:=zero30
  obtain ⟨H0,hH0⟩:∃ H0,H0 = h0F nn kl:=⟨_,rfl⟩
  have hH0j:Hid (∀ j,H0 j = if j = 0 then xW (xW (xW (fT 0) 16842752#64) (BitVec.ofNat 64 (kl * 256))) (BitVec.ofNat 64 nn) else fT j):=fun j=>by
    rw [hH0]
    unfold h0F k0 xW
    simp only [BitVec.xor_assoc]
  obtain ⟨M,hM⟩:∃ M,M = catF (keyF kl key) (keyN kl) b:=⟨_,rfl⟩
  obtain ⟨R,hR⟩:∃ R,R = blakeF H0 M (keyN kl + l):=⟨_,rfl⟩
  rw [← hH0,← hM,← hR]
  obtain ⟨f,hf⟩:∃ f,f = fT:=⟨_,rfl⟩
  have hfi:=rfirst_any
  rw [← hf] at hfi hH0j
  replace hfi:=hideit hfi
  clear hf hH0
  have z1:(1:Int) ≤ (nn:Int):=by omega
  have z2:(nn:Int) ≤ 64:=by omega
  have z3:¬ (nn:Int) < 1:=by omega
  have z4:¬ (64:Int) < (nn:Int):=by omega
  have z5:¬ (64:Int) < (kl:Int):=by omega
  have z6:(kl:Int) ≤ 64:=by omega
  replace hM:=hideit hM
  replace hR:=hideit hR
  go_enter Tryd.func44,Tryd.ntmps44
  go_upto_region 3 with (fail)
  refine wp_region_lit ?_
  refine wpList_call rfl (by simp [go_sem]) ((hfi.out w).mono ?_)
  rintro e w3 ⟨rfl,hw3⟩
  refine ⟨_,rfl,?_⟩
  simp only [jk,jq,jv,jy]
  have HN:=hideit (RowAt.new w3 8 (wv fun _=>0#64) 92)
  have hE3:Ext w3 (w3.alloc (.cells (row 8 (wv fun _=>0#64)).toArray 92)):=(Below.refl _ _).alloc (Nat.le_refl _) _
  refine wpList_to rfl (.pointer (some ⟨w3.heap.size,0,none⟩)) (w3.alloc (.cells (row 8 (wv fun _=>0#64)).toArray 92)) (by simp [go_sem,hz2]) ?_
  simp only [jk,jq,jv,jy]
  refine wpList_store_mid rfl 92 (.tmp 8) (.tmp 26) rfl _ 0 (row 8 (wv f)).toArray rfl rfl (by rw [row_size]; exact HN.out.there) (by rw [row_size]; exact info30) (row_one fun _ _=>rfl) ?_
  have hE4:Ext w ((w3.alloc (.cells (row 8 (wv fun _=>0#64)).toArray 92)).setCells w3.heap.size 0 (row 8 (wv f))):=Ext.trans hw3 (below_setCells w3.heap.size (Nat.le_refl _) _ _ _ hE3)
  have HF:=hideit (HN.out.cells (g':=wv f))
  have HE4:=hideit hE4
  have hd2:w.heap.size ≤ w3.heap.size:=Below.size hw3
  generalize (w3.alloc (.cells (row 8 (wv fun _=>0#64)).toArray 92)).setCells w3.heap.size 0 (row 8 (wv f)) = w4 at *
  generalize w3.heap.size = d at *
  clear HN hE3 hE4 hw3 hfi hz2
  simp only [Act.put]
  have e0:=HF.out.1 0 (by omega)
  have g0:=HF.out.2.1 0 (by omega)
  simp only [wv] at e0
  have hx1:bits .xor .u64 ((f 0).toNat:Int) 16842752 = ((xW (f 0) 16842752#64).toNat:Int):=xW_fact (f 0) 16842752#64
  have hx2:bits .xor .u64 ((xW (f 0) 16842752#64).toNat:Int) ((kl:Int) * 256) = ((xW (xW (f 0) 16842752#64) (BitVec.ofNat 64 (kl * 256))).toNat:Int):=by
    have h1:=xW_fact (xW (f 0) 16842752#64) (BitVec.ofNat 64 (kl * 256))
    rw [show ((BitVec.ofNat 64 (kl * 256)).toNat:Int) = (kl:Int) * 256 by rw [BitVec.toNat_ofNat,Nat.mod_eq_of_lt (show kl * 256 < 2 ^ 64 by omega),Int.natCast_mul]; rfl] at h1
    exact h1
  have hx3:bits .xor .u64 ((xW (xW (f 0) 16842752#64) (BitVec.ofNat 64 (kl * 256))).toNat:Int) (nn:Int) = ((H0 0).toNat:Int):=by
    have h1:=xW_fact (xW (xW (f 0) 16842752#64) (BitVec.ofNat 64 (kl * 256))) (BitVec.ofNat 64 nn)
    rw [BitVec.toNat_ofNat,Nat.mod_eq_of_lt (show nn < 2 ^ 64 by omega)] at h1
    rw [h1,hH0j.out 0,if_pos rfl]
  go_upto_region 5 with (fail)
  have HS1:RowAt d 8 (wv H0) (w4.setCell ⟨d,0,none⟩ (.int .u64 ((H0 0).toNat:Int))):=(HF.out.set 0 (.int .u64 ((H0 0).toNat:Int))).congr fun j _=>by
    simp only [wv]
    by_cases e:j = 0
    · rw [if_pos e,e]
    · rw [if_neg e,hH0j.out j,if_neg e]
  have HE5:=hideit (HE4.out.setCell (p:=⟨d,0,none⟩) hd2 (.int .u64 ((H0 0).toNat:Int)))
  replace HS1:=hideit HS1
  generalize w4.setCell ⟨d,0,none⟩ (.int .u64 ((H0 0).toNat:Int)) = w5 at *
  clear HF e0 g0 hx1 hx2 hx3 hH0j HE4
  by_cases hk0:kl = 0
  · have k1:¬ (0:Int) < (kl:Int):=by omega
    have hqN:Hid (R = blakeF H0 M (0 + l)):=by show R = _; rw [hR.out]; unfold keyN; rw [if_pos hk0]
    have hMb:Hid (∀ j,b j = M (0 + j)):=fun j=>by rw [hM.out]; unfold catF keyN; rw [if_pos hk0,if_neg (by omega)]; congr 1; omega
    have HA:RL w d H0 M (.slice none 0 0) 0 w5:=⟨own_nil _ _ _ _,HS1.out,HE5.out,hd2⟩
    replace HA:=hideit HA
    clear HS1 HE5 hKs hR hM
    replace hk0:=hideit hk0
    go_upto_region 8 with (fail)
    refine wp_region_lit ?_
    refine wpList_run rfl (.slice none 0 0) (by simp [go_sem]) ?_
    simp only [jk,jq,jv,jy]
    refine wpList_run rfl (.slice om l cm) (by simp [go_sem]) ?_
    simp only [jk,jq,jv,jy]
    refine wpList_growV (n:=0) (base:=d + 1) elem22 rfl (.tmp 49) (.tmp 50) rfl rfl HA.out.own (.slice om l cm) l b (yv M) rfl (hMs.out.ext HA.out.ext) (fun _ _=>rfl) (fun j hj=>by simp only [yv]; rw [hMb.out j]) (by omega) (by have:=HA.out.st.2.2; omega) ?_
    intro v1 w1 hO1 hg1
    have HB:=hideit (HA.out.grow hg1 hO1)
    obtain ⟨ob,cpb,rfl⟩:=hO1.bv.form
    clear hO1 hg1 HA hMs
    simp only [jk,jq,jv,jy]
    obtain ⟨N,hN⟩:∃ N,N = 0 + l:=⟨_,rfl⟩
    rw [← hN] at HB hqN ⊢
    have hNb:N ≤ 140737488355328:=by omega
    obtain ⟨g,hg0⟩:∃ g,(0 < N → ob = some ⟨g,0,none⟩ ∧ RowAt g N (yv M) w1 ∧ d < g):=by
      rcases Nat.eq_zero_or_pos N with h | h
      · exact ⟨0,fun h'=>by omega⟩
      · obtain ⟨g,cp',hv,h1,h2,h3,h4⟩:=HB.out.own.lies h
        injection hv with e1 _ _
        exact ⟨g,fun _=>⟨e1,h4,by omega⟩⟩
    have hob:Hid (0 < N → ob = some ⟨g,0,none⟩):=fun h=>(hg0 h).1
    have hgd:Hid (0 < N → d ≠ g):=fun h=>by have:=(hg0 h).2.2; omega
    obtain ⟨q,hq⟩:∃ q,q = qOf N:=⟨_,rfl⟩
    have hq1:N ≤ 128 * q + 128:=by rw [hq]; unfold qOf; omega
    have hq2:q = 0 ∨ 128 * q < N:=by rw [hq]; unfold qOf; omega
    obtain ⟨TT,hTT⟩:∃ TT:Nat → Nat → BitVec 64,TT = fun k=>if k ≤ q then chainB H0 M k else pieceF (chainB H0 M q) (pendB M q (N - 128 * q)) (BitVec.ofNat 64 N) true:=⟨_,rfl⟩
    have hT0:H0 = TT 0:=by rw [hTT]; rfl
    have hTs:Hid (∀ k,k < q → TT (k + 1) = pieceF (TT k) (fun j=>M (128 * k + j)) (BitVec.ofNat 64 (128 * (k + 1))) false):=fun k hk=>by
      rw [hTT]
      simp only [if_pos (show k + 1 ≤ q by omega),if_pos (show k ≤ q by omega)]
      rfl
    have hTz:Hid (TT (q + 1) = pieceF (TT q) (pendB M q (N - 128 * q)) (BitVec.ofNat 64 N) true):=by
      show TT (q + 1) = _
      rw [hTT]
      simp only [if_neg (show ¬ q + 1 ≤ q by omega),if_pos (Nat.le_refl q)]
    have hRj:Hid (∀ j,R j = digF (TT (q + 1)) j):=fun j=>by
      rw [hTz.out,hqN.out,hTT,hq]
      simp only [if_pos (Nat.le_refl _)]
      rfl
    have HS0:SR w d g N (TT 0) M w1:=⟨HB.out.ext,by rw [← hT0]; exact HB.out.st,fun h=>(hg0 h).2.1⟩
    replace HS0:=hideit HS0
    replace hN:=hideit hN
    clear hg0 hTT hT0 hq HB hqN
    have hz3:=zero31
    go_wp2
    go_loopw [10] (fun i wr=>∃ k:Nat,k ≤ q + 1 ∧ i = .int .i64 ((128 * k:Nat):Int) ∧ SR w d g N (TT k) M wr) (fun i _=>N + 256 - (intOf i).toNat)
    case atStart=>exact ⟨0,by omega,rfl,HS0.out⟩
    case round=>
      clear HS0
      obtain ⟨k,hk,rfl,hS⟩:=hrel
      have HS:=hideit hS
      clear hS
      obtain ⟨A,hA⟩:∃ A,A = 128 * k:=⟨_,rfl⟩
      rw [← hA]
      by_cases hkk:k ≤ q
      · have hA1:A ≤ N:=by omega
        have hAq:k < q → A + 128 < N:=by omega
        have hAl:¬ k < q → N ≤ A + 128:=by omega
        by_cases hk0:k = 0
        · have hA0:((A:Int) == 0) = true:=by rw [beq_iff_eq]; omega
          replace hA:=hideit hA
          replace hk0:=hideit hk0
          go_upto_region 13 with (fail)
          obtain ⟨pb,hpb⟩:∃ pb,pb = wr.heap.size:=⟨_,rfl⟩
          have HP:RowAt pb 128 (yv fun _=>0#8) (wr.alloc (.cells (row 128 (yv fun _=>0#8)).toArray 94)):=by rw [hpb]; exact RowAt.new wr 128 _ 94
          have HSa:=hideit (HS.out.carry ((Below.refl _ _).alloc (Nat.le_refl _) (.cells (row 128 (yv fun _=>0#8)).toArray 94)))
          have hdp:d < pb:=by rw [hpb]; exact HS.out.st.2.2
          have hgp:Hid (0 < N → g < pb):=fun h=>by rw [hpb]; exact (HS.out.al h).2.2
          rw [← hpb]
          replace HP:=hideit HP
          clear hpb HS
          generalize wr.alloc (.cells (row 128 (yv fun _=>0#8)).toArray 94) = Y at *
          obtain ⟨L,hL⟩:∃ L,L = if N - A < 128 then N - A else 128:=⟨_,rfl⟩
          have hL1:L ≤ 128:=by rw [hL]; split <;> omega
          have hL2:A + L ≤ N:=by rw [hL]; split <;> omega
          have hL3:L < 128 → A + L = N:=by rw [hL]; split <;> omega
          clear hL
          go_wp2
          go_loopw [12] (fun i wr=>∃ j:Nat,j ≤ L ∧ i = .int .i64 (j:Int) ∧ SR w d g N (TT k) M wr ∧ RowAt pb 128 (yv fun x=>if x < j then M (A + x) else 0#8) wr) (fun i _=>L - (intOf i).toNat)
          case atStart=>exact ⟨0,by omega,rfl,HSa.out,HP.out.congr fun x _=>by simp only [yv]; rw [if_neg (by omega)]⟩
          case round=>
            clear HSa HP
            obtain ⟨j,hj,rfl,hS,hP⟩:=hrel
            have HS:=hideit hS
            have HP:=hideit hP
            have j0:(0:Int) ≤ (j:Int):=by omega
            have a0:(0:Int) ≤ (A:Int):=by omega
            have a3:(A:Int) ≤ 140737488355328:=by omega
            by_cases hlt2:j < L
            · have hN0:0 < N:=by omega
              obtain rfl:=hob.out hN0
              have hcell:=(hS.al hN0).1 (A + j) (by omega)
              simp only [yv] at hcell
              have e2:=hP.1 j (by omega)
              have g2:=hP.2.1 j (by omega)
              clear hS hP
              have j1:(j:Int) < 128:=by omega
              have a1:(A:Int) + (j:Int) < (N:Int):=by omega
              have a2:A + j < N:=by omega
              go_wp2
              have hgpb:=hgp.out hN0
              have HI:=hideit (HS.out.setP (p:=pb) (i:=j) (v:=.int .u8 ((M (A + j)).toNat:Int)) (by omega) (by omega) (fun _=>by omega))
              have HJ:RowAt pb 128 (yv fun x=>if x < j + 1 then M (A + x) else 0#8) (wr.setCell ⟨pb,j,none⟩ (.int .u8 ((M (A + j)).toNat:Int))):=(HP.out.set j _).congr fun x _=>by
                simp only [yv]
                by_cases e:x = j
                · subst e; rw [if_pos rfl,if_pos (by omega)]
                · rw [if_neg e]
                  by_cases h:x < j
                  · rw [if_pos h,if_pos (by omega)]
                  · rw [if_neg h,if_neg (by omega)]
              exact ⟨⟨j + 1,by omega,by go_num,HI.out,HJ⟩,by simp [intOf]; omega⟩
            · have hjL:j = L:=by omega
              clear hS hP
              by_cases hkq:k < q
              · have hAl2:=hAq hkq
                have hL4:L = 128:=by
                  rcases Nat.lt_or_ge L 128 with h | h
                  · have:=hL3 h; omega
                  · omega
                have j1:¬ (j:Int) < 128:=by omega
                have c1:(A:Int) + 128 < (N:Int):=by omega
                obtain ⟨pp,hpp⟩:∃ pp,pp = fun x=>M (128 * k + x):=⟨_,rfl⟩
                have HP2:=hideit (HP.out.congr (g':=yv pp) fun x hx=>by simp only [yv]; rw [if_pos (by omega),hpp,hA.out])
                have hrb:=rpiece_any (TT k) pp (BitVec.ofNat 64 (128 * (k + 1))) false wr
                have hTk:pieceF (TT k) pp (BitVec.ofNat 64 (128 * (k + 1))) false = TT (k + 1):=by rw [hpp]; exact (hTs.out k hkq).symm
                rw [hTk] at hrb
                have ht:((BitVec.ofNat 64 (128 * (k + 1))).toNat:Int) = (A:Int) + 128:=by
                  have:=hA.out
                  rw [BitVec.toNat_ofNat,Nat.mod_eq_of_lt (by omega)]
                  omega
                rw [ht] at hrb
                replace hrb:=hideit hrb
                have wr1:IntKind.i64.wrap ((A:Int) + 128) = (A:Int) + 128:=by rw [IntKind.wrap_i64]; omega
                have wr2:IntKind.u64.wrap ((A:Int) + 128) = (A:Int) + 128:=by rw [IntKind.wrap_u64]; omega
                clear hpp HP ht hTk hjL hL4
                go_upto_region 18 with (fail)
                refine wp_region_lit ?_
                refine wpList_load_mid rfl 92 (.tmp 8) rfl d 0 rfl (row 8 (wv (TT k))) _ HS.out.st.range Tryd.underlying92 rfl (by rw [row_length]; exact info30) ?_
                simp only [jk,jq,jv,jy]
                refine wpList_load_mid rfl 94 (.tmp 11) rfl pb 0 rfl (row 128 (yv pp)) _ HP2.out.range Tryd.underlying94 rfl (by rw [row_length]; exact info31) ?_
                simp only [jk,jq,jv,jy]
                refine wpList_run rfl (.int .i64 (A:Int)) (by simp [go_sem]) ?_
                simp only [jk,jq,jv,jy]
                refine wpList_run rfl (.int .i64 ((A:Int) + 128)) (by simp [go_sem,wr1]) ?_
                simp only [jk,jq,jv,jy]
                refine wpList_run rfl (.int .u64 ((A:Int) + 128)) (by simp [go_sem,wr2]) ?_
                simp only [jk,jq,jv,jy]
                refine wpList_call rfl (by simp [go_sem]) (hrb.out.mono ?_)
                rintro e V ⟨rfl,hV⟩
                refine ⟨_,rfl,?_⟩
                simp only [jk,jq,jv,jy]
                have HV:=hideit (HS.out.carry hV)
                clear hrb hV HS HP2
                refine wpList_store_mid rfl 92 (.tmp 8) (.tmp 92) rfl d 0 (row 8 (wv (TT (k + 1)))).toArray rfl rfl (by rw [row_size]; exact HV.out.st.there) (by rw [row_size]; exact info30) (row_one fun _ _=>rfl) ?_
                have HV1:=hideit (HV.out.setS hd2 hgd.out (TT (k + 1)))
                clear HV
                generalize V.setCells d 0 (row 8 (wv (TT (k + 1)))) = V1 at *
                simp only [Act.put]
                go_wp2
                have hi:Value.int .i64 ((A:Int) + 128) = .int .i64 ((128 * (k + 1):Nat):Int):=by have:=hA.out; congr 1; omega
                exact ⟨⟨k + 1,by omega,hi,HV1.out⟩,by simp [intOf]; omega⟩
              · have hkq2:k = q:=by omega
                have hAl2:=hAl hkq
                have hAj:A + j = N:=by
                  rcases Nat.lt_or_ge L 128 with h | h
                  · have:=hL3 h; omega
                  · omega
                have c1:¬ (A:Int) + 128 < (N:Int):=by omega
                obtain ⟨pp,hpp⟩:∃ pp,pp = pendB M q (N - 128 * q):=⟨_,rfl⟩
                have HP2:=hideit (HP.out.congr (g':=yv pp) fun x hx=>by
                  have h1:=hA.out
                  simp only [yv]
                  rw [hpp]
                  unfold pendB
                  rw [show N - 128 * q = j by omega,← hkq2,← h1])
                have hrb:=rpiece_any (TT k) pp (BitVec.ofNat 64 N) true wr
                have hTk:pieceF (TT k) pp (BitVec.ofNat 64 N) true = TT (k + 1):=by rw [hpp,hkq2]; exact hTz.out.symm
                rw [hTk] at hrb
                have ht:((BitVec.ofNat 64 N).toNat:Int) = (N:Int):=by
                  rw [BitVec.toNat_ofNat,Nat.mod_eq_of_lt (by omega)]
                rw [ht] at hrb
                replace hrb:=hideit hrb
                have wr2:IntKind.u64.wrap (N:Int) = (N:Int):=by rw [IntKind.wrap_u64]; omega
                have j2:(j:Int) ≤ 128:=by omega
                have hng:¬ ((A:Int) + (j:Int) < (N:Int)):=by omega
                have hkq3:k + 1 ≤ q + 1:=by omega
                replace hAj:=hideit hAj
                clear hpp HP ht hTk hkq2 hjL
                by_cases j1:(j:Int) < 128
                all_goals
                  go_upto_region 19 with (fail)
                  refine wp_region_lit ?_
                  refine wpList_load_mid rfl 92 (.tmp 8) rfl d 0 rfl (row 8 (wv (TT k))) _ HS.out.st.range Tryd.underlying92 rfl (by rw [row_length]; exact info30) ?_
                  simp only [jk,jq,jv,jy]
                  refine wpList_load_mid rfl 94 (.tmp 11) rfl pb 0 rfl (row 128 (yv pp)) _ HP2.out.range Tryd.underlying94 rfl (by rw [row_length]; exact info31) ?_
                  simp only [jk,jq,jv,jy]
                  refine wpList_run rfl (.slice ob N cpb) (by simp [go_sem]) ?_
                  simp only [jk,jq,jv,jy]
                  refine wpList_run rfl (.int .i64 (N:Int)) (by simp [go_sem]) ?_
                  simp only [jk,jq,jv,jy]
                  refine wpList_run rfl (.int .u64 (N:Int)) (by simp [go_sem,wr2]) ?_
                  simp only [jk,jq,jv,jy]
                  refine wpList_call rfl (by simp [go_sem]) (hrb.out.mono ?_)
                  rintro e V ⟨rfl,hV⟩
                  refine ⟨_,rfl,?_⟩
                  simp only [jk,jq,jv,jy]
                  have HV:=hideit (HS.out.carry hV)
                  clear hrb hV HS HP2
                  refine wpList_store_mid rfl 92 (.tmp 8) (.tmp 98) rfl d 0 (row 8 (wv (TT (k + 1)))).toArray rfl rfl (by rw [row_size]; exact HV.out.st.there) (by rw [row_size]; exact info30) (row_one fun _ _=>rfl) ?_
                  have HV1:=hideit (HV.out.setS hd2 hgd.out (TT (k + 1)))
                  clear HV
                  generalize V.setCells d 0 (row 8 (wv (TT (k + 1)))) = V1 at *
                  simp only [Act.put]
                  go_wp2
                  have hi:Value.int .i64 ((A:Int) + 128) = .int .i64 ((128 * (k + 1):Nat):Int):=by have:=hA.out; congr 1; omega
                  exact ⟨⟨k + 1,by omega,hi,HV1.out⟩,by simp [intOf]; omega⟩
        · have hA0:((A:Int) == 0) = false:=by rw [beq_eq_false_iff_ne]; omega
          have hA2:(A:Int) < (N:Int):=by omega
          replace hA:=hideit hA
          replace hk0:=hideit hk0
          go_upto_region 13 with (fail)
          obtain ⟨pb,hpb⟩:∃ pb,pb = wr.heap.size:=⟨_,rfl⟩
          have HP:RowAt pb 128 (yv fun _=>0#8) (wr.alloc (.cells (row 128 (yv fun _=>0#8)).toArray 94)):=by rw [hpb]; exact RowAt.new wr 128 _ 94
          have HSa:=hideit (HS.out.carry ((Below.refl _ _).alloc (Nat.le_refl _) (.cells (row 128 (yv fun _=>0#8)).toArray 94)))
          have hdp:d < pb:=by rw [hpb]; exact HS.out.st.2.2
          have hgp:Hid (0 < N → g < pb):=fun h=>by rw [hpb]; exact (HS.out.al h).2.2
          rw [← hpb]
          replace HP:=hideit HP
          clear hpb HS
          generalize wr.alloc (.cells (row 128 (yv fun _=>0#8)).toArray 94) = Y at *
          obtain ⟨L,hL⟩:∃ L,L = if N - A < 128 then N - A else 128:=⟨_,rfl⟩
          have hL1:L ≤ 128:=by rw [hL]; split <;> omega
          have hL2:A + L ≤ N:=by rw [hL]; split <;> omega
          have hL3:L < 128 → A + L = N:=by rw [hL]; split <;> omega
          clear hL
          go_wp2
          go_loopw [12] (fun i wr=>∃ j:Nat,j ≤ L ∧ i = .int .i64 (j:Int) ∧ SR w d g N (TT k) M wr ∧ RowAt pb 128 (yv fun x=>if x < j then M (A + x) else 0#8) wr) (fun i _=>L - (intOf i).toNat)
          case atStart=>exact ⟨0,by omega,rfl,HSa.out,HP.out.congr fun x _=>by simp only [yv]; rw [if_neg (by omega)]⟩
          case round=>
            clear HSa HP
            obtain ⟨j,hj,rfl,hS,hP⟩:=hrel
            have HS:=hideit hS
            have HP:=hideit hP
            have j0:(0:Int) ≤ (j:Int):=by omega
            have a0:(0:Int) ≤ (A:Int):=by omega
            have a3:(A:Int) ≤ 140737488355328:=by omega
            by_cases hlt2:j < L
            · have hN0:0 < N:=by omega
              obtain rfl:=hob.out hN0
              have hcell:=(hS.al hN0).1 (A + j) (by omega)
              simp only [yv] at hcell
              have e2:=hP.1 j (by omega)
              have g2:=hP.2.1 j (by omega)
              clear hS hP
              have j1:(j:Int) < 128:=by omega
              have a1:(A:Int) + (j:Int) < (N:Int):=by omega
              have a2:A + j < N:=by omega
              go_wp2
              have hgpb:=hgp.out hN0
              have HI:=hideit (HS.out.setP (p:=pb) (i:=j) (v:=.int .u8 ((M (A + j)).toNat:Int)) (by omega) (by omega) (fun _=>by omega))
              have HJ:RowAt pb 128 (yv fun x=>if x < j + 1 then M (A + x) else 0#8) (wr.setCell ⟨pb,j,none⟩ (.int .u8 ((M (A + j)).toNat:Int))):=(HP.out.set j _).congr fun x _=>by
                simp only [yv]
                by_cases e:x = j
                · subst e; rw [if_pos rfl,if_pos (by omega)]
                · rw [if_neg e]
                  by_cases h:x < j
                  · rw [if_pos h,if_pos (by omega)]
                  · rw [if_neg h,if_neg (by omega)]
              exact ⟨⟨j + 1,by omega,by go_num,HI.out,HJ⟩,by simp [intOf]; omega⟩
            · have hjL:j = L:=by omega
              clear hS hP
              by_cases hkq:k < q
              · have hAl2:=hAq hkq
                have hL4:L = 128:=by
                  rcases Nat.lt_or_ge L 128 with h | h
                  · have:=hL3 h; omega
                  · omega
                have j1:¬ (j:Int) < 128:=by omega
                have c1:(A:Int) + 128 < (N:Int):=by omega
                obtain ⟨pp,hpp⟩:∃ pp,pp = fun x=>M (128 * k + x):=⟨_,rfl⟩
                have HP2:=hideit (HP.out.congr (g':=yv pp) fun x hx=>by simp only [yv]; rw [if_pos (by omega),hpp,hA.out])
                have hrb:=rpiece_any (TT k) pp (BitVec.ofNat 64 (128 * (k + 1))) false wr
                have hTk:pieceF (TT k) pp (BitVec.ofNat 64 (128 * (k + 1))) false = TT (k + 1):=by rw [hpp]; exact (hTs.out k hkq).symm
                rw [hTk] at hrb
                have ht:((BitVec.ofNat 64 (128 * (k + 1))).toNat:Int) = (A:Int) + 128:=by
                  have:=hA.out
                  rw [BitVec.toNat_ofNat,Nat.mod_eq_of_lt (by omega)]
                  omega
                rw [ht] at hrb
                replace hrb:=hideit hrb
                have wr1:IntKind.i64.wrap ((A:Int) + 128) = (A:Int) + 128:=by rw [IntKind.wrap_i64]; omega
                have wr2:IntKind.u64.wrap ((A:Int) + 128) = (A:Int) + 128:=by rw [IntKind.wrap_u64]; omega
                clear hpp HP ht hTk hjL hL4
                go_upto_region 18 with (fail)
                refine wp_region_lit ?_
                refine wpList_load_mid rfl 92 (.tmp 8) rfl d 0 rfl (row 8 (wv (TT k))) _ HS.out.st.range Tryd.underlying92 rfl (by rw [row_length]; exact info30) ?_
                simp only [jk,jq,jv,jy]
                refine wpList_load_mid rfl 94 (.tmp 11) rfl pb 0 rfl (row 128 (yv pp)) _ HP2.out.range Tryd.underlying94 rfl (by rw [row_length]; exact info31) ?_
                simp only [jk,jq,jv,jy]
                refine wpList_run rfl (.int .i64 (A:Int)) (by simp [go_sem]) ?_
                simp only [jk,jq,jv,jy]
                refine wpList_run rfl (.int .i64 ((A:Int) + 128)) (by simp [go_sem,wr1]) ?_
                simp only [jk,jq,jv,jy]
                refine wpList_run rfl (.int .u64 ((A:Int) + 128)) (by simp [go_sem,wr2]) ?_
                simp only [jk,jq,jv,jy]
                refine wpList_call rfl (by simp [go_sem]) (hrb.out.mono ?_)
                rintro e V ⟨rfl,hV⟩
                refine ⟨_,rfl,?_⟩
                simp only [jk,jq,jv,jy]
                have HV:=hideit (HS.out.carry hV)
                clear hrb hV HS HP2
                refine wpList_store_mid rfl 92 (.tmp 8) (.tmp 92) rfl d 0 (row 8 (wv (TT (k + 1)))).toArray rfl rfl (by rw [row_size]; exact HV.out.st.there) (by rw [row_size]; exact info30) (row_one fun _ _=>rfl) ?_
                have HV1:=hideit (HV.out.setS hd2 hgd.out (TT (k + 1)))
                clear HV
                generalize V.setCells d 0 (row 8 (wv (TT (k + 1)))) = V1 at *
                simp only [Act.put]
                go_wp2
                have hi:Value.int .i64 ((A:Int) + 128) = .int .i64 ((128 * (k + 1):Nat):Int):=by have:=hA.out; congr 1; omega
                exact ⟨⟨k + 1,by omega,hi,HV1.out⟩,by simp [intOf]; omega⟩
              · have hkq2:k = q:=by omega
                have hAl2:=hAl hkq
                have hAj:A + j = N:=by
                  rcases Nat.lt_or_ge L 128 with h | h
                  · have:=hL3 h; omega
                  · omega
                have c1:¬ (A:Int) + 128 < (N:Int):=by omega
                obtain ⟨pp,hpp⟩:∃ pp,pp = pendB M q (N - 128 * q):=⟨_,rfl⟩
                have HP2:=hideit (HP.out.congr (g':=yv pp) fun x hx=>by
                  have h1:=hA.out
                  simp only [yv]
                  rw [hpp]
                  unfold pendB
                  rw [show N - 128 * q = j by omega,← hkq2,← h1])
                have hrb:=rpiece_any (TT k) pp (BitVec.ofNat 64 N) true wr
                have hTk:pieceF (TT k) pp (BitVec.ofNat 64 N) true = TT (k + 1):=by rw [hpp,hkq2]; exact hTz.out.symm
                rw [hTk] at hrb
                have ht:((BitVec.ofNat 64 N).toNat:Int) = (N:Int):=by
                  rw [BitVec.toNat_ofNat,Nat.mod_eq_of_lt (by omega)]
                rw [ht] at hrb
                replace hrb:=hideit hrb
                have wr2:IntKind.u64.wrap (N:Int) = (N:Int):=by rw [IntKind.wrap_u64]; omega
                have j2:(j:Int) ≤ 128:=by omega
                have hng:¬ ((A:Int) + (j:Int) < (N:Int)):=by omega
                have hkq3:k + 1 ≤ q + 1:=by omega
                replace hAj:=hideit hAj
                clear hpp HP ht hTk hkq2 hjL
                by_cases j1:(j:Int) < 128
                all_goals
                  go_upto_region 19 with (fail)
                  refine wp_region_lit ?_
                  refine wpList_load_mid rfl 92 (.tmp 8) rfl d 0 rfl (row 8 (wv (TT k))) _ HS.out.st.range Tryd.underlying92 rfl (by rw [row_length]; exact info30) ?_
                  simp only [jk,jq,jv,jy]
                  refine wpList_load_mid rfl 94 (.tmp 11) rfl pb 0 rfl (row 128 (yv pp)) _ HP2.out.range Tryd.underlying94 rfl (by rw [row_length]; exact info31) ?_
                  simp only [jk,jq,jv,jy]
                  refine wpList_run rfl (.slice ob N cpb) (by simp [go_sem]) ?_
                  simp only [jk,jq,jv,jy]
                  refine wpList_run rfl (.int .i64 (N:Int)) (by simp [go_sem]) ?_
                  simp only [jk,jq,jv,jy]
                  refine wpList_run rfl (.int .u64 (N:Int)) (by simp [go_sem,wr2]) ?_
                  simp only [jk,jq,jv,jy]
                  refine wpList_call rfl (by simp [go_sem]) (hrb.out.mono ?_)
                  rintro e V ⟨rfl,hV⟩
                  refine ⟨_,rfl,?_⟩
                  simp only [jk,jq,jv,jy]
                  have HV:=hideit (HS.out.carry hV)
                  clear hrb hV HS HP2
                  refine wpList_store_mid rfl 92 (.tmp 8) (.tmp 98) rfl d 0 (row 8 (wv (TT (k + 1)))).toArray rfl rfl (by rw [row_size]; exact HV.out.st.there) (by rw [row_size]; exact info30) (row_one fun _ _=>rfl) ?_
                  have HV1:=hideit (HV.out.setS hd2 hgd.out (TT (k + 1)))
                  clear HV
                  generalize V.setCells d 0 (row 8 (wv (TT (k + 1)))) = V1 at *
                  simp only [Act.put]
                  go_wp2
                  have hi:Value.int .i64 ((A:Int) + 128) = .int .i64 ((128 * (k + 1):Nat):Int):=by have:=hA.out; congr 1; omega
                  exact ⟨⟨k + 1,by omega,hi,HV1.out⟩,by simp [intOf]; omega⟩
      · have hkq:k = q + 1:=by omega
        have hA0:((A:Int) == 0) = false:=by rw [beq_eq_false_iff_ne]; omega
        have hA2:¬ (A:Int) < (N:Int):=by omega
        rw [hkq] at HS
        replace hA:=hideit hA
        clear hkq
        have HR0:RL w d (TT (q + 1)) R (.slice none 0 0) 0 wr:=⟨own_nil _ _ _ _,HS.out.st,HS.out.ext,hd2⟩
        replace HR0:=hideit HR0
        clear HS
        obtain ⟨Z,hZ⟩:∃ Z,Z = TT (q + 1):=⟨_,rfl⟩
        rw [← hZ] at HR0 hRj
        clear hZ hz3
        go_wp2
        go_loopw [13,14] (fun v i wr=>∃ t:Nat,t ≤ nn ∧ i = .int .i64 (t:Int) ∧ RL w d Z R v t wr) (fun _ i _=>nn - (intOf i).toNat)
        case atStart=>exact ⟨0,by omega,rfl,HR0.out⟩
        case round=>
          clear HR0
          obtain ⟨t,ht,rfl,hS⟩:=hrel
          obtain ⟨oo,co,rfl⟩:=hS.own.bv.form
          have HS:=hideit hS
          by_cases hlt3:t < nn
          · have e1:=hS.st.1 (t / 8) (by omega)
            clear hS
            simp only [wv] at e1
            have t0:(0:Int) ≤ (t:Int):=by omega
            have t1:(t:Int) < (nn:Int):=by omega
            have t2:(0:Int) ≤ (t:Int) / 8:=by omega
            have t3:(t:Int) / 8 < 8:=by omega
            have b1:=(Z (t / 8)).isLt
            go_wp2_with (at_builtin; refine wpList_grow (n:=t) (base:=d + 1) elem22 rfl (.tmp 104) (.tmp 114) rfl rfl (HS.out.own.alloc _) ⟨wr.heap.size,0,none⟩ 1 1 (yv fun _=>R t) (yv R) rfl (lie1 wr _ (R t) (by rw [dig_fact,hRj.out]; rfl)) (fun _ _=>rfl) (fun j hj=>rfl) (fun j hj=>by rw [show j = 0 by omega]; rfl) (by omega) (by have:=HS.out.st.2.2; simp; omega) ?_; intro v3 w3 hO3 hg3; have HS3:=hideit ((HS.out.alloc _).grow hg3 hO3); clear hO3 hg3)
            go_roundw
            case rel=>
              first | exact ⟨(t + 1:Nat),by omega,by go_num,HS3.out⟩ | ((repeat apply Exists.intro); exact ⟨⟨t + 1,by omega,by go_num,HS3.out⟩,rfl⟩)
            case measure=>simp [intOf]; omega
          · have hnt:=hideit (show t = nn by omega)
            have t1:¬ (t:Int) < (nn:Int):=by omega
            clear hS
            go_wp2
            exact bodyPost_ret (v:=.tuple #[.slice oo t co,.int .i64 0]) (by simp [results,Tryd.results44]) rfl ⟨_,rfl,by rw [← hnt.out]; exact HS.out.own.down (by omega),HS.out.ext⟩
  · have k1:(0:Int) < (kl:Int):=by omega
    have k2:0 < kl:=by omega
    have hkn:keyN kl = 128:=by unfold keyN; rw [if_neg hk0]
    have hqN:Hid (R = blakeF H0 M (128 + l)):=by show R = _; rw [hR.out,hkn]
    have hMb:Hid (∀ j,b j = M (128 + j)):=fun j=>by rw [hM.out]; unfold catF; rw [hkn,if_neg (by omega)]; congr 1; omega
    have hMk:Hid (∀ j,j < 128 → M j = if j < kl then key j else 0#8):=fun j hj=>by rw [hM.out]; unfold catF; rw [hkn,if_pos hj]; rfl
    have HA0:RL w d H0 M (.slice none 0 0) 0 w5:=⟨own_nil _ _ _ _,HS1.out,HE5.out,hd2⟩
    replace HA0:=hideit HA0
    clear HS1 HE5 hR hM hkn
    go_upto_region 7 with (fail)
    refine wp_region_lit ?_
    refine wpList_run rfl (.slice none 0 0) (by simp [go_sem]) ?_
    simp only [jk,jq,jv,jy]
    refine wpList_run rfl (.slice ok kl ck) (by simp [go_sem]) ?_
    simp only [jk,jq,jv,jy]
    refine wpList_growV (n:=0) (base:=d + 1) elem22 rfl (.tmp 42) (.tmp 43) rfl rfl HA0.out.own (.slice ok kl ck) kl key (yv M) rfl (hKs.out.ext HA0.out.ext) (fun _ _=>rfl) (fun j hj=>by simp only [yv]; rw [Nat.zero_add,hMk.out j (by omega),if_pos hj]) (by omega) (by have:=HA0.out.st.2.2; omega) ?_
    intro v6 w6 hO6 hg6
    rw [Nat.zero_add] at hO6
    have HA1:=hideit (HA0.out.grow hg6 hO6)
    obtain ⟨o6,c6,rfl⟩:=hO6.bv.form
    clear hO6 hg6 HA0
    have wr1:IntKind.i64.wrap (128 - (kl:Int)) = ((128 - kl:Nat):Int):=by rw [IntKind.wrap_i64]; omega
    simp only [jk,jq,jv,jy]
    refine wpList_run rfl (.slice ok kl ck) (by simp [go_sem]) ?_
    simp only [jk,jq,jv,jy]
    refine wpList_run rfl (.int .i64 (kl:Int)) (by simp [go_sem]) ?_
    simp only [jk,jq,jv,jy]
    refine wpList_run rfl (.int .i64 ((128 - kl:Nat):Int)) (by simp [go_sem,wr1]) ?_
    simp only [jk,jq,jv,jy]
    obtain ⟨i5,hi5⟩:=ty5
    refine wpList_zeros w6 (n:=kl) (base:=d + 1) (f:=yv M) (.int .u8 0) i5 (.int .u8 0) Tryd.underlying32 Tryd.underlying3 hi5.1 hi5.2.1 hi5.2.2.1 hi5.2.2.2 rfl rfl rfl (.tmp 44) (.tmp 47) rfl rfl HA1.out.own k2 (128 - kl) (by omega) rfl (fun _ _=>rfl) (fun j hj=>by
      simp only [yv]
      rw [hMk.out (kl + j) (by omega),if_neg (by omega)]
      rfl) (by omega) (by have:=HA1.out.st.2.2; omega) ?_
    intro v7 w7 hO7 hg7
    rw [show kl + (128 - kl) = 128 by omega] at hO7
    have HA:=hideit (HA1.out.grow hg7 hO7)
    obtain ⟨o7,c7,rfl⟩:=hO7.bv.form
    clear hO7 hg7 HA1 wr1 hi5 hMk hKs
    simp only [jk,jq,jv,jy]
    replace hk0:=hideit hk0
    go_upto_region 8 with (fail)
    refine wp_region_lit ?_
    refine wpList_run rfl (.slice o7 128 c7) (by simp [go_sem]) ?_
    simp only [jk,jq,jv,jy]
    refine wpList_run rfl (.slice om l cm) (by simp [go_sem]) ?_
    simp only [jk,jq,jv,jy]
    refine wpList_growV (n:=128) (base:=d + 1) elem22 rfl (.tmp 49) (.tmp 50) rfl rfl HA.out.own (.slice om l cm) l b (yv M) rfl (hMs.out.ext HA.out.ext) (fun _ _=>rfl) (fun j hj=>by simp only [yv]; rw [hMb.out j]) (by omega) (by have:=HA.out.st.2.2; omega) ?_
    intro v1 w1 hO1 hg1
    have HB:=hideit (HA.out.grow hg1 hO1)
    obtain ⟨ob,cpb,rfl⟩:=hO1.bv.form
    clear hO1 hg1 HA hMs
    simp only [jk,jq,jv,jy]
    obtain ⟨N,hN⟩:∃ N,N = 128 + l:=⟨_,rfl⟩
    rw [← hN] at HB hqN ⊢
    have hNb:N ≤ 140737488355328:=by omega
    obtain ⟨g,hg0⟩:∃ g,(0 < N → ob = some ⟨g,0,none⟩ ∧ RowAt g N (yv M) w1 ∧ d < g):=by
      rcases Nat.eq_zero_or_pos N with h | h
      · exact ⟨0,fun h'=>by omega⟩
      · obtain ⟨g,cp',hv,h1,h2,h3,h4⟩:=HB.out.own.lies h
        injection hv with e1 _ _
        exact ⟨g,fun _=>⟨e1,h4,by omega⟩⟩
    have hob:Hid (0 < N → ob = some ⟨g,0,none⟩):=fun h=>(hg0 h).1
    have hgd:Hid (0 < N → d ≠ g):=fun h=>by have:=(hg0 h).2.2; omega
    obtain ⟨q,hq⟩:∃ q,q = qOf N:=⟨_,rfl⟩
    have hq1:N ≤ 128 * q + 128:=by rw [hq]; unfold qOf; omega
    have hq2:q = 0 ∨ 128 * q < N:=by rw [hq]; unfold qOf; omega
    obtain ⟨TT,hTT⟩:∃ TT:Nat → Nat → BitVec 64,TT = fun k=>if k ≤ q then chainB H0 M k else pieceF (chainB H0 M q) (pendB M q (N - 128 * q)) (BitVec.ofNat 64 N) true:=⟨_,rfl⟩
    have hT0:H0 = TT 0:=by rw [hTT]; rfl
    have hTs:Hid (∀ k,k < q → TT (k + 1) = pieceF (TT k) (fun j=>M (128 * k + j)) (BitVec.ofNat 64 (128 * (k + 1))) false):=fun k hk=>by
      rw [hTT]
      simp only [if_pos (show k + 1 ≤ q by omega),if_pos (show k ≤ q by omega)]
      rfl
    have hTz:Hid (TT (q + 1) = pieceF (TT q) (pendB M q (N - 128 * q)) (BitVec.ofNat 64 N) true):=by
      show TT (q + 1) = _
      rw [hTT]
      simp only [if_neg (show ¬ q + 1 ≤ q by omega),if_pos (Nat.le_refl q)]
    have hRj:Hid (∀ j,R j = digF (TT (q + 1)) j):=fun j=>by
      rw [hTz.out,hqN.out,hTT,hq]
      simp only [if_pos (Nat.le_refl _)]
      rfl
    have HS0:SR w d g N (TT 0) M w1:=⟨HB.out.ext,by rw [← hT0]; exact HB.out.st,fun h=>(hg0 h).2.1⟩
    replace HS0:=hideit HS0
    replace hN:=hideit hN
    clear hg0 hTT hT0 hq HB hqN
    have hz3:=zero31
    go_wp2
    go_loopw [10] (fun i wr=>∃ k:Nat,k ≤ q + 1 ∧ i = .int .i64 ((128 * k:Nat):Int) ∧ SR w d g N (TT k) M wr) (fun i _=>N + 256 - (intOf i).toNat)
    case atStart=>exact ⟨0,by omega,rfl,HS0.out⟩
    case round=>
      clear HS0
      obtain ⟨k,hk,rfl,hS⟩:=hrel
      have HS:=hideit hS
      clear hS
      obtain ⟨A,hA⟩:∃ A,A = 128 * k:=⟨_,rfl⟩
      rw [← hA]
      by_cases hkk:k ≤ q
      · have hA1:A ≤ N:=by omega
        have hAq:k < q → A + 128 < N:=by omega
        have hAl:¬ k < q → N ≤ A + 128:=by omega
        by_cases hk0:k = 0
        · have hA0:((A:Int) == 0) = true:=by rw [beq_iff_eq]; omega
          replace hA:=hideit hA
          replace hk0:=hideit hk0
          go_upto_region 13 with (fail)
          obtain ⟨pb,hpb⟩:∃ pb,pb = wr.heap.size:=⟨_,rfl⟩
          have HP:RowAt pb 128 (yv fun _=>0#8) (wr.alloc (.cells (row 128 (yv fun _=>0#8)).toArray 94)):=by rw [hpb]; exact RowAt.new wr 128 _ 94
          have HSa:=hideit (HS.out.carry ((Below.refl _ _).alloc (Nat.le_refl _) (.cells (row 128 (yv fun _=>0#8)).toArray 94)))
          have hdp:d < pb:=by rw [hpb]; exact HS.out.st.2.2
          have hgp:Hid (0 < N → g < pb):=fun h=>by rw [hpb]; exact (HS.out.al h).2.2
          rw [← hpb]
          replace HP:=hideit HP
          clear hpb HS
          generalize wr.alloc (.cells (row 128 (yv fun _=>0#8)).toArray 94) = Y at *
          obtain ⟨L,hL⟩:∃ L,L = if N - A < 128 then N - A else 128:=⟨_,rfl⟩
          have hL1:L ≤ 128:=by rw [hL]; split <;> omega
          have hL2:A + L ≤ N:=by rw [hL]; split <;> omega
          have hL3:L < 128 → A + L = N:=by rw [hL]; split <;> omega
          clear hL
          go_wp2
          go_loopw [12] (fun i wr=>∃ j:Nat,j ≤ L ∧ i = .int .i64 (j:Int) ∧ SR w d g N (TT k) M wr ∧ RowAt pb 128 (yv fun x=>if x < j then M (A + x) else 0#8) wr) (fun i _=>L - (intOf i).toNat)
          case atStart=>exact ⟨0,by omega,rfl,HSa.out,HP.out.congr fun x _=>by simp only [yv]; rw [if_neg (by omega)]⟩
          case round=>
            clear HSa HP
            obtain ⟨j,hj,rfl,hS,hP⟩:=hrel
            have HS:=hideit hS
            have HP:=hideit hP
            have j0:(0:Int) ≤ (j:Int):=by omega
            have a0:(0:Int) ≤ (A:Int):=by omega
            have a3:(A:Int) ≤ 140737488355328:=by omega
            by_cases hlt2:j < L
            · have hN0:0 < N:=by omega
              obtain rfl:=hob.out hN0
              have hcell:=(hS.al hN0).1 (A + j) (by omega)
              simp only [yv] at hcell
              have e2:=hP.1 j (by omega)
              have g2:=hP.2.1 j (by omega)
              clear hS hP
              have j1:(j:Int) < 128:=by omega
              have a1:(A:Int) + (j:Int) < (N:Int):=by omega
              have a2:A + j < N:=by omega
              go_wp2
              have hgpb:=hgp.out hN0
              have HI:=hideit (HS.out.setP (p:=pb) (i:=j) (v:=.int .u8 ((M (A + j)).toNat:Int)) (by omega) (by omega) (fun _=>by omega))
              have HJ:RowAt pb 128 (yv fun x=>if x < j + 1 then M (A + x) else 0#8) (wr.setCell ⟨pb,j,none⟩ (.int .u8 ((M (A + j)).toNat:Int))):=(HP.out.set j _).congr fun x _=>by
                simp only [yv]
                by_cases e:x = j
                · subst e; rw [if_pos rfl,if_pos (by omega)]
                · rw [if_neg e]
                  by_cases h:x < j
                  · rw [if_pos h,if_pos (by omega)]
                  · rw [if_neg h,if_neg (by omega)]
              exact ⟨⟨j + 1,by omega,by go_num,HI.out,HJ⟩,by simp [intOf]; omega⟩
            · have hjL:j = L:=by omega
              clear hS hP
              by_cases hkq:k < q
              · have hAl2:=hAq hkq
                have hL4:L = 128:=by
                  rcases Nat.lt_or_ge L 128 with h | h
                  · have:=hL3 h; omega
                  · omega
                have j1:¬ (j:Int) < 128:=by omega
                have c1:(A:Int) + 128 < (N:Int):=by omega
                obtain ⟨pp,hpp⟩:∃ pp,pp = fun x=>M (128 * k + x):=⟨_,rfl⟩
                have HP2:=hideit (HP.out.congr (g':=yv pp) fun x hx=>by simp only [yv]; rw [if_pos (by omega),hpp,hA.out])
                have hrb:=rpiece_any (TT k) pp (BitVec.ofNat 64 (128 * (k + 1))) false wr
                have hTk:pieceF (TT k) pp (BitVec.ofNat 64 (128 * (k + 1))) false = TT (k + 1):=by rw [hpp]; exact (hTs.out k hkq).symm
                rw [hTk] at hrb
                have ht:((BitVec.ofNat 64 (128 * (k + 1))).toNat:Int) = (A:Int) + 128:=by
                  have:=hA.out
                  rw [BitVec.toNat_ofNat,Nat.mod_eq_of_lt (by omega)]
                  omega
                rw [ht] at hrb
                replace hrb:=hideit hrb
                have wr1:IntKind.i64.wrap ((A:Int) + 128) = (A:Int) + 128:=by rw [IntKind.wrap_i64]; omega
                have wr2:IntKind.u64.wrap ((A:Int) + 128) = (A:Int) + 128:=by rw [IntKind.wrap_u64]; omega
                clear hpp HP ht hTk hjL hL4
                go_upto_region 18 with (fail)
                refine wp_region_lit ?_
                refine wpList_load_mid rfl 92 (.tmp 8) rfl d 0 rfl (row 8 (wv (TT k))) _ HS.out.st.range Tryd.underlying92 rfl (by rw [row_length]; exact info30) ?_
                simp only [jk,jq,jv,jy]
                refine wpList_load_mid rfl 94 (.tmp 11) rfl pb 0 rfl (row 128 (yv pp)) _ HP2.out.range Tryd.underlying94 rfl (by rw [row_length]; exact info31) ?_
                simp only [jk,jq,jv,jy]
                refine wpList_run rfl (.int .i64 (A:Int)) (by simp [go_sem]) ?_
                simp only [jk,jq,jv,jy]
                refine wpList_run rfl (.int .i64 ((A:Int) + 128)) (by simp [go_sem,wr1]) ?_
                simp only [jk,jq,jv,jy]
                refine wpList_run rfl (.int .u64 ((A:Int) + 128)) (by simp [go_sem,wr2]) ?_
                simp only [jk,jq,jv,jy]
                refine wpList_call rfl (by simp [go_sem]) (hrb.out.mono ?_)
                rintro e V ⟨rfl,hV⟩
                refine ⟨_,rfl,?_⟩
                simp only [jk,jq,jv,jy]
                have HV:=hideit (HS.out.carry hV)
                clear hrb hV HS HP2
                refine wpList_store_mid rfl 92 (.tmp 8) (.tmp 92) rfl d 0 (row 8 (wv (TT (k + 1)))).toArray rfl rfl (by rw [row_size]; exact HV.out.st.there) (by rw [row_size]; exact info30) (row_one fun _ _=>rfl) ?_
                have HV1:=hideit (HV.out.setS hd2 hgd.out (TT (k + 1)))
                clear HV
                generalize V.setCells d 0 (row 8 (wv (TT (k + 1)))) = V1 at *
                simp only [Act.put]
                go_wp2
                have hi:Value.int .i64 ((A:Int) + 128) = .int .i64 ((128 * (k + 1):Nat):Int):=by have:=hA.out; congr 1; omega
                exact ⟨⟨k + 1,by omega,hi,HV1.out⟩,by simp [intOf]; omega⟩
              · have hkq2:k = q:=by omega
                have hAl2:=hAl hkq
                have hAj:A + j = N:=by
                  rcases Nat.lt_or_ge L 128 with h | h
                  · have:=hL3 h; omega
                  · omega
                have c1:¬ (A:Int) + 128 < (N:Int):=by omega
                obtain ⟨pp,hpp⟩:∃ pp,pp = pendB M q (N - 128 * q):=⟨_,rfl⟩
                have HP2:=hideit (HP.out.congr (g':=yv pp) fun x hx=>by
                  have h1:=hA.out
                  simp only [yv]
                  rw [hpp]
                  unfold pendB
                  rw [show N - 128 * q = j by omega,← hkq2,← h1])
                have hrb:=rpiece_any (TT k) pp (BitVec.ofNat 64 N) true wr
                have hTk:pieceF (TT k) pp (BitVec.ofNat 64 N) true = TT (k + 1):=by rw [hpp,hkq2]; exact hTz.out.symm
                rw [hTk] at hrb
                have ht:((BitVec.ofNat 64 N).toNat:Int) = (N:Int):=by
                  rw [BitVec.toNat_ofNat,Nat.mod_eq_of_lt (by omega)]
                rw [ht] at hrb
                replace hrb:=hideit hrb
                have wr2:IntKind.u64.wrap (N:Int) = (N:Int):=by rw [IntKind.wrap_u64]; omega
                have j2:(j:Int) ≤ 128:=by omega
                have hng:¬ ((A:Int) + (j:Int) < (N:Int)):=by omega
                have hkq3:k + 1 ≤ q + 1:=by omega
                replace hAj:=hideit hAj
                clear hpp HP ht hTk hkq2 hjL
                by_cases j1:(j:Int) < 128
                all_goals
                  go_upto_region 19 with (fail)
                  refine wp_region_lit ?_
                  refine wpList_load_mid rfl 92 (.tmp 8) rfl d 0 rfl (row 8 (wv (TT k))) _ HS.out.st.range Tryd.underlying92 rfl (by rw [row_length]; exact info30) ?_
                  simp only [jk,jq,jv,jy]
                  refine wpList_load_mid rfl 94 (.tmp 11) rfl pb 0 rfl (row 128 (yv pp)) _ HP2.out.range Tryd.underlying94 rfl (by rw [row_length]; exact info31) ?_
                  simp only [jk,jq,jv,jy]
                  refine wpList_run rfl (.slice ob N cpb) (by simp [go_sem]) ?_
                  simp only [jk,jq,jv,jy]
                  refine wpList_run rfl (.int .i64 (N:Int)) (by simp [go_sem]) ?_
                  simp only [jk,jq,jv,jy]
                  refine wpList_run rfl (.int .u64 (N:Int)) (by simp [go_sem,wr2]) ?_
                  simp only [jk,jq,jv,jy]
                  refine wpList_call rfl (by simp [go_sem]) (hrb.out.mono ?_)
                  rintro e V ⟨rfl,hV⟩
                  refine ⟨_,rfl,?_⟩
                  simp only [jk,jq,jv,jy]
                  have HV:=hideit (HS.out.carry hV)
                  clear hrb hV HS HP2
                  refine wpList_store_mid rfl 92 (.tmp 8) (.tmp 98) rfl d 0 (row 8 (wv (TT (k + 1)))).toArray rfl rfl (by rw [row_size]; exact HV.out.st.there) (by rw [row_size]; exact info30) (row_one fun _ _=>rfl) ?_
                  have HV1:=hideit (HV.out.setS hd2 hgd.out (TT (k + 1)))
                  clear HV
                  generalize V.setCells d 0 (row 8 (wv (TT (k + 1)))) = V1 at *
                  simp only [Act.put]
                  go_wp2
                  have hi:Value.int .i64 ((A:Int) + 128) = .int .i64 ((128 * (k + 1):Nat):Int):=by have:=hA.out; congr 1; omega
                  exact ⟨⟨k + 1,by omega,hi,HV1.out⟩,by simp [intOf]; omega⟩
        · have hA0:((A:Int) == 0) = false:=by rw [beq_eq_false_iff_ne]; omega
          have hA2:(A:Int) < (N:Int):=by omega
          replace hA:=hideit hA
          replace hk0:=hideit hk0
          go_upto_region 13 with (fail)
          obtain ⟨pb,hpb⟩:∃ pb,pb = wr.heap.size:=⟨_,rfl⟩
          have HP:RowAt pb 128 (yv fun _=>0#8) (wr.alloc (.cells (row 128 (yv fun _=>0#8)).toArray 94)):=by rw [hpb]; exact RowAt.new wr 128 _ 94
          have HSa:=hideit (HS.out.carry ((Below.refl _ _).alloc (Nat.le_refl _) (.cells (row 128 (yv fun _=>0#8)).toArray 94)))
          have hdp:d < pb:=by rw [hpb]; exact HS.out.st.2.2
          have hgp:Hid (0 < N → g < pb):=fun h=>by rw [hpb]; exact (HS.out.al h).2.2
          rw [← hpb]
          replace HP:=hideit HP
          clear hpb HS
          generalize wr.alloc (.cells (row 128 (yv fun _=>0#8)).toArray 94) = Y at *
          obtain ⟨L,hL⟩:∃ L,L = if N - A < 128 then N - A else 128:=⟨_,rfl⟩
          have hL1:L ≤ 128:=by rw [hL]; split <;> omega
          have hL2:A + L ≤ N:=by rw [hL]; split <;> omega
          have hL3:L < 128 → A + L = N:=by rw [hL]; split <;> omega
          clear hL
          go_wp2
          go_loopw [12] (fun i wr=>∃ j:Nat,j ≤ L ∧ i = .int .i64 (j:Int) ∧ SR w d g N (TT k) M wr ∧ RowAt pb 128 (yv fun x=>if x < j then M (A + x) else 0#8) wr) (fun i _=>L - (intOf i).toNat)
          case atStart=>exact ⟨0,by omega,rfl,HSa.out,HP.out.congr fun x _=>by simp only [yv]; rw [if_neg (by omega)]⟩
          case round=>
            clear HSa HP
            obtain ⟨j,hj,rfl,hS,hP⟩:=hrel
            have HS:=hideit hS
            have HP:=hideit hP
            have j0:(0:Int) ≤ (j:Int):=by omega
            have a0:(0:Int) ≤ (A:Int):=by omega
            have a3:(A:Int) ≤ 140737488355328:=by omega
            by_cases hlt2:j < L
            · have hN0:0 < N:=by omega
              obtain rfl:=hob.out hN0
              have hcell:=(hS.al hN0).1 (A + j) (by omega)
              simp only [yv] at hcell
              have e2:=hP.1 j (by omega)
              have g2:=hP.2.1 j (by omega)
              clear hS hP
              have j1:(j:Int) < 128:=by omega
              have a1:(A:Int) + (j:Int) < (N:Int):=by omega
              have a2:A + j < N:=by omega
              go_wp2
              have hgpb:=hgp.out hN0
              have HI:=hideit (HS.out.setP (p:=pb) (i:=j) (v:=.int .u8 ((M (A + j)).toNat:Int)) (by omega) (by omega) (fun _=>by omega))
              have HJ:RowAt pb 128 (yv fun x=>if x < j + 1 then M (A + x) else 0#8) (wr.setCell ⟨pb,j,none⟩ (.int .u8 ((M (A + j)).toNat:Int))):=(HP.out.set j _).congr fun x _=>by
                simp only [yv]
                by_cases e:x = j
                · subst e; rw [if_pos rfl,if_pos (by omega)]
                · rw [if_neg e]
                  by_cases h:x < j
                  · rw [if_pos h,if_pos (by omega)]
                  · rw [if_neg h,if_neg (by omega)]
              exact ⟨⟨j + 1,by omega,by go_num,HI.out,HJ⟩,by simp [intOf]; omega⟩
            · have hjL:j = L:=by omega
              clear hS hP
              by_cases hkq:k < q
              · have hAl2:=hAq hkq
                have hL4:L = 128:=by
                  rcases Nat.lt_or_ge L 128 with h | h
                  · have:=hL3 h; omega
                  · omega
                have j1:¬ (j:Int) < 128:=by omega
                have c1:(A:Int) + 128 < (N:Int):=by omega
                obtain ⟨pp,hpp⟩:∃ pp,pp = fun x=>M (128 * k + x):=⟨_,rfl⟩
                have HP2:=hideit (HP.out.congr (g':=yv pp) fun x hx=>by simp only [yv]; rw [if_pos (by omega),hpp,hA.out])
                have hrb:=rpiece_any (TT k) pp (BitVec.ofNat 64 (128 * (k + 1))) false wr
                have hTk:pieceF (TT k) pp (BitVec.ofNat 64 (128 * (k + 1))) false = TT (k + 1):=by rw [hpp]; exact (hTs.out k hkq).symm
                rw [hTk] at hrb
                have ht:((BitVec.ofNat 64 (128 * (k + 1))).toNat:Int) = (A:Int) + 128:=by
                  have:=hA.out
                  rw [BitVec.toNat_ofNat,Nat.mod_eq_of_lt (by omega)]
                  omega
                rw [ht] at hrb
                replace hrb:=hideit hrb
                have wr1:IntKind.i64.wrap ((A:Int) + 128) = (A:Int) + 128:=by rw [IntKind.wrap_i64]; omega
                have wr2:IntKind.u64.wrap ((A:Int) + 128) = (A:Int) + 128:=by rw [IntKind.wrap_u64]; omega
                clear hpp HP ht hTk hjL hL4
                go_upto_region 18 with (fail)
                refine wp_region_lit ?_
                refine wpList_load_mid rfl 92 (.tmp 8) rfl d 0 rfl (row 8 (wv (TT k))) _ HS.out.st.range Tryd.underlying92 rfl (by rw [row_length]; exact info30) ?_
                simp only [jk,jq,jv,jy]
                refine wpList_load_mid rfl 94 (.tmp 11) rfl pb 0 rfl (row 128 (yv pp)) _ HP2.out.range Tryd.underlying94 rfl (by rw [row_length]; exact info31) ?_
                simp only [jk,jq,jv,jy]
                refine wpList_run rfl (.int .i64 (A:Int)) (by simp [go_sem]) ?_
                simp only [jk,jq,jv,jy]
                refine wpList_run rfl (.int .i64 ((A:Int) + 128)) (by simp [go_sem,wr1]) ?_
                simp only [jk,jq,jv,jy]
                refine wpList_run rfl (.int .u64 ((A:Int) + 128)) (by simp [go_sem,wr2]) ?_
                simp only [jk,jq,jv,jy]
                refine wpList_call rfl (by simp [go_sem]) (hrb.out.mono ?_)
                rintro e V ⟨rfl,hV⟩
                refine ⟨_,rfl,?_⟩
                simp only [jk,jq,jv,jy]
                have HV:=hideit (HS.out.carry hV)
                clear hrb hV HS HP2
                refine wpList_store_mid rfl 92 (.tmp 8) (.tmp 92) rfl d 0 (row 8 (wv (TT (k + 1)))).toArray rfl rfl (by rw [row_size]; exact HV.out.st.there) (by rw [row_size]; exact info30) (row_one fun _ _=>rfl) ?_
                have HV1:=hideit (HV.out.setS hd2 hgd.out (TT (k + 1)))
                clear HV
                generalize V.setCells d 0 (row 8 (wv (TT (k + 1)))) = V1 at *
                simp only [Act.put]
                go_wp2
                have hi:Value.int .i64 ((A:Int) + 128) = .int .i64 ((128 * (k + 1):Nat):Int):=by have:=hA.out; congr 1; omega
                exact ⟨⟨k + 1,by omega,hi,HV1.out⟩,by simp [intOf]; omega⟩
              · have hkq2:k = q:=by omega
                have hAl2:=hAl hkq
                have hAj:A + j = N:=by
                  rcases Nat.lt_or_ge L 128 with h | h
                  · have:=hL3 h; omega
                  · omega
                have c1:¬ (A:Int) + 128 < (N:Int):=by omega
                obtain ⟨pp,hpp⟩:∃ pp,pp = pendB M q (N - 128 * q):=⟨_,rfl⟩
                have HP2:=hideit (HP.out.congr (g':=yv pp) fun x hx=>by
                  have h1:=hA.out
                  simp only [yv]
                  rw [hpp]
                  unfold pendB
                  rw [show N - 128 * q = j by omega,← hkq2,← h1])
                have hrb:=rpiece_any (TT k) pp (BitVec.ofNat 64 N) true wr
                have hTk:pieceF (TT k) pp (BitVec.ofNat 64 N) true = TT (k + 1):=by rw [hpp,hkq2]; exact hTz.out.symm
                rw [hTk] at hrb
                have ht:((BitVec.ofNat 64 N).toNat:Int) = (N:Int):=by
                  rw [BitVec.toNat_ofNat,Nat.mod_eq_of_lt (by omega)]
                rw [ht] at hrb
                replace hrb:=hideit hrb
                have wr2:IntKind.u64.wrap (N:Int) = (N:Int):=by rw [IntKind.wrap_u64]; omega
                have j2:(j:Int) ≤ 128:=by omega
                have hng:¬ ((A:Int) + (j:Int) < (N:Int)):=by omega
                have hkq3:k + 1 ≤ q + 1:=by omega
                replace hAj:=hideit hAj
                clear hpp HP ht hTk hkq2 hjL
                by_cases j1:(j:Int) < 128
                all_goals
                  go_upto_region 19 with (fail)
                  refine wp_region_lit ?_
                  refine wpList_load_mid rfl 92 (.tmp 8) rfl d 0 rfl (row 8 (wv (TT k))) _ HS.out.st.range Tryd.underlying92 rfl (by rw [row_length]; exact info30) ?_
                  simp only [jk,jq,jv,jy]
                  refine wpList_load_mid rfl 94 (.tmp 11) rfl pb 0 rfl (row 128 (yv pp)) _ HP2.out.range Tryd.underlying94 rfl (by rw [row_length]; exact info31) ?_
                  simp only [jk,jq,jv,jy]
                  refine wpList_run rfl (.slice ob N cpb) (by simp [go_sem]) ?_
                  simp only [jk,jq,jv,jy]
                  refine wpList_run rfl (.int .i64 (N:Int)) (by simp [go_sem]) ?_
                  simp only [jk,jq,jv,jy]
                  refine wpList_run rfl (.int .u64 (N:Int)) (by simp [go_sem,wr2]) ?_
                  simp only [jk,jq,jv,jy]
                  refine wpList_call rfl (by simp [go_sem]) (hrb.out.mono ?_)
                  rintro e V ⟨rfl,hV⟩
                  refine ⟨_,rfl,?_⟩
                  simp only [jk,jq,jv,jy]
                  have HV:=hideit (HS.out.carry hV)
                  clear hrb hV HS HP2
                  refine wpList_store_mid rfl 92 (.tmp 8) (.tmp 98) rfl d 0 (row 8 (wv (TT (k + 1)))).toArray rfl rfl (by rw [row_size]; exact HV.out.st.there) (by rw [row_size]; exact info30) (row_one fun _ _=>rfl) ?_
                  have HV1:=hideit (HV.out.setS hd2 hgd.out (TT (k + 1)))
                  clear HV
                  generalize V.setCells d 0 (row 8 (wv (TT (k + 1)))) = V1 at *
                  simp only [Act.put]
                  go_wp2
                  have hi:Value.int .i64 ((A:Int) + 128) = .int .i64 ((128 * (k + 1):Nat):Int):=by have:=hA.out; congr 1; omega
                  exact ⟨⟨k + 1,by omega,hi,HV1.out⟩,by simp [intOf]; omega⟩
      · have hkq:k = q + 1:=by omega
        have hA0:((A:Int) == 0) = false:=by rw [beq_eq_false_iff_ne]; omega
        have hA2:¬ (A:Int) < (N:Int):=by omega
        rw [hkq] at HS
        replace hA:=hideit hA
        clear hkq
        have HR0:RL w d (TT (q + 1)) R (.slice none 0 0) 0 wr:=⟨own_nil _ _ _ _,HS.out.st,HS.out.ext,hd2⟩
        replace HR0:=hideit HR0
        clear HS
        obtain ⟨Z,hZ⟩:∃ Z,Z = TT (q + 1):=⟨_,rfl⟩
        rw [← hZ] at HR0 hRj
        clear hZ hz3
        go_wp2
        go_loopw [13,14] (fun v i wr=>∃ t:Nat,t ≤ nn ∧ i = .int .i64 (t:Int) ∧ RL w d Z R v t wr) (fun _ i _=>nn - (intOf i).toNat)
        case atStart=>exact ⟨0,by omega,rfl,HR0.out⟩
        case round=>
          clear HR0
          obtain ⟨t,ht,rfl,hS⟩:=hrel
          obtain ⟨oo,co,rfl⟩:=hS.own.bv.form
          have HS:=hideit hS
          by_cases hlt3:t < nn
          · have e1:=hS.st.1 (t / 8) (by omega)
            clear hS
            simp only [wv] at e1
            have t0:(0:Int) ≤ (t:Int):=by omega
            have t1:(t:Int) < (nn:Int):=by omega
            have t2:(0:Int) ≤ (t:Int) / 8:=by omega
            have t3:(t:Int) / 8 < 8:=by omega
            have b1:=(Z (t / 8)).isLt
            go_wp2_with (at_builtin; refine wpList_grow (n:=t) (base:=d + 1) elem22 rfl (.tmp 104) (.tmp 114) rfl rfl (HS.out.own.alloc _) ⟨wr.heap.size,0,none⟩ 1 1 (yv fun _=>R t) (yv R) rfl (lie1 wr _ (R t) (by rw [dig_fact,hRj.out]; rfl)) (fun _ _=>rfl) (fun j hj=>rfl) (fun j hj=>by rw [show j = 0 by omega]; rfl) (by omega) (by have:=HS.out.st.2.2; simp; omega) ?_; intro v3 w3 hO3 hg3; have HS3:=hideit ((HS.out.alloc _).grow hg3 hO3); clear hO3 hg3)
            go_roundw
            case rel=>
              first | exact ⟨(t + 1:Nat),by omega,by go_num,HS3.out⟩ | ((repeat apply Exists.intro); exact ⟨⟨t + 1,by omega,by go_num,HS3.out⟩,rfl⟩)
            case measure=>simp [intOf]; omega
          · have hnt:=hideit (show t = nn by omega)
            have t1:¬ (t:Int) < (nn:Int):=by omega
            clear hS
            go_wp2
            exact bodyPost_ret (v:=.tuple #[.slice oo t co,.int .i64 0]) (by simp [results,Tryd.results44]) rfl ⟨_,rfl,by rw [← hnt.out]; exact HS.out.own.down (by omega),HS.out.ext⟩
end Go.Proofs.YtfbmeclpcgdmhabDoor
