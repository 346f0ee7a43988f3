/-
  One round: the places of a table, mixed one row behind the other. Four words stirred: the program's and the document's sums and turns.
-/
import Derived.Test.YtfbmeclpcgdmhabDoorQk1
import Derived.Test.YtfbmeclpcgdmhabDoorQk8
namespace Go.Proofs.YtfbmeclpcgdmhabDoor
open Go.RowKit Go.BigFrame
def plL:List Nat := [0,4,8,12,1,5,9,13,2,6,10,14,3,7,11,15,0,5,10,15,1,6,11,12,2,7,8,13,3,4,9,14]
def plF (j:Nat):Nat:=plL.getD j 0
def TabC (w:World):Prop:=(∀ j,j < 32 → w.cell? ⟨1,j,none⟩ = some (iv plF j)) ∧ 1 < w.heap.size
theorem TabC.ext {w X:World} (h:TabC w) (k:Ext w X):TabC X:=
  ⟨fun j hj=>(Below.cell k (p:=⟨1,j,none⟩) h.2).trans (h.1 j hj),Nat.lt_of_lt_of_le h.2 (Below.size k)⟩
theorem pl_lt:∀ j,j < 32 → plF j < 16:=by decide +kernel
def rowMix (v:Nat → BitVec 64) (p0 p1 p2 p3:Nat) (x y:BitVec 64) (j:Nat):BitVec 64:=
  if j = p3 then (mix4 (v p0) (v p1) (v p2) (v p3) x y).2.2.2 else if j = p2 then (mix4 (v p0) (v p1) (v p2) (v p3) x y).2.2.1 else if j = p1 then (mix4 (v p0) (v p1) (v p2) (v p3) x y).2.1 else if j = p0 then (mix4 (v p0) (v p1) (v p2) (v p3) x y).1 else v j
def mixK (v m:Nat → BitVec 64) (od:Nat → Nat):Nat → Nat → BitVec 64
  | 0=>v
  | k + 1=>rowMix (mixK v m od k) (plF (4 * k)) (plF (4 * k + 1)) (plF (4 * k + 2)) (plF (4 * k + 3)) (m (od (2 * k))) (m (od (2 * k + 1)))
theorem idx58 (k:Nat) (hk:k < 8) (X:World):(Instr.index 43 (.agg (row 32 (iv plF)).toArray) (.int .i64 (k:Int))).run Tryd.prog X = .ok (.agg (row 4 (iv fun j=>plF (4 * k + j))).toArray) X:=by
  rcases (by omega:k = 0 ∨ k = 1 ∨ k = 2 ∨ k = 3 ∨ k = 4 ∨ k = 5 ∨ k = 6 ∨ k = 7) with rfl | rfl | rfl | rfl | rfl | rfl | rfl | rfl <;> kernel_rfl
theorem zero57 (w:World):Sem.run Tryd.prog (zeroValue 42) w = .ok (.agg (row 4 (iv fun _=>0)).toArray) w:=by kernel_rfl
theorem info57:(Tryd.prog.info? 42).map (·.size) = some 4:=by kernel_rfl
theorem info58:(Tryd.prog.info? 43).map (·.size) = some 32:=by kernel_rfl
structure MS (w:World) (b:Nat) (v m:Nat → BitVec 64) (od:Nat → Nat) (X:World):Prop where
  ext:Ext w X
  st:RowAt b 16 (wv v) X
  wd:RowAt (b + 1) 16 (wv m) X
  od:RowAt (b + 2) 16 (iv od) X
  res:RowAt (b + 3) 16 (wv fun _=>0#64) X
theorem MS.carry {w X Y:World} {b:Nat} {v m:Nat → BitVec 64} {od:Nat → Nat} (h:MS w b v m od X) (k:Ext X Y):MS w b v m od Y:=
  ⟨Ext.trans h.ext k,h.st.carry k,h.wd.carry k,h.od.carry k,h.res.carry k⟩
theorem MS.set {w X:World} {b:Nat} {v m:Nat → BitVec 64} {od:Nat → Nat} (h:MS w b v m od X) (hb:w.heap.size ≤ b) (i:Nat) (a:BitVec 64):MS w b (fun j=>if j = i then a else v j) m od (X.setCell ⟨b,i,none⟩ (.int .u64 (a.toNat:Int))):=
  ⟨Below.setCell h.ext hb _,(h.st.set i (.int .u64 (a.toNat:Int))).congr fun j _=>by
    simp only [wv]
    split <;> rfl,h.wd.other _ _ (by show b ≠ b + 1; omega),h.od.other _ _ (by show b ≠ b + 2; omega),h.res.other _ _ (by show b ≠ b + 3; omega)⟩
set_option maxRecDepth 20000 in
set_option maxHeartbeats 4000000 in
theorem mixAll_any (v m:Nat → BitVec 64) (od:Nat → Nat) (hod:∀ j,j < 16 → od j < 16) (w:World) (hC:TabC w):
    Calls Tryd.prog 74 #[.agg (row 16 (wv v)).toArray,.agg (row 16 (wv m)).toArray,.agg (row 16 (iv od)).toArray] w fun e w'=>e = .returned (.agg (row 16 (wv (mixK v m od 8))).toArray) ∧ Below w.heap.size w w':=by
  have hz:=zero46
  have hz57:=zero57
  replace hod:=hideit hod
  obtain ⟨F,hF⟩:∃ F,F = mixK v m od:=⟨_,rfl⟩
  have hF0:Hid (F 0 = v):=by rw [hF]; rfl
  have hFs:Hid (∀ k,F (k + 1) = rowMix (F k) (plF (4 * k)) (plF (4 * k + 1)) (plF (4 * k + 2)) (plF (4 * k + 3)) (m (od (2 * k))) (m (od (2 * k + 1)))):=fun k=>by rw [hF]; rfl
  rw [← hF]
  clear hF
  go_enter Tryd.func74,Tryd.ntmps74
  go_upto_region 1 with (fail)
  have HM:MS w w.heap.size (F 0) m od ((((w.alloc (.cells (row 16 (wv v)).toArray 25)).alloc (.cells (row 16 (wv m)).toArray 25)).alloc (.cells (row 16 (iv od)).toArray 109)).alloc (.cells (row 16 (wv fun _=>0#64)).toArray 25)):=by
    rw [hF0.out]
    refine ⟨((((Below.refl _ _).alloc (Nat.le_refl _) _).alloc (by simp) _).alloc (by simp; omega) _).alloc (by simp; omega) _,?_,?_,?_,?_⟩
    · exact (((RowAt.new w 16 (wv v) 25).alloc _).alloc _).alloc _
    · have:=((RowAt.new (w.alloc (.cells (row 16 (wv v)).toArray 25)) 16 (wv m) 25).alloc (.cells (row 16 (iv od)).toArray 109)).alloc (.cells (row 16 (wv fun _=>0#64)).toArray 25)
      simpa using this
    · have:=(RowAt.new ((w.alloc (.cells (row 16 (wv v)).toArray 25)).alloc (.cells (row 16 (wv m)).toArray 25)) 16 (iv od) 109).alloc (.cells (row 16 (wv fun _=>0#64)).toArray 25)
      simpa using this
    · have:=RowAt.new (((w.alloc (.cells (row 16 (wv v)).toArray 25)).alloc (.cells (row 16 (wv m)).toArray 25)).alloc (.cells (row 16 (iv od)).toArray 109)) 16 (wv fun _=>0#64) 25
      simpa using this
  replace HM:=hideit HM
  generalize (((w.alloc (.cells (row 16 (wv v)).toArray 25)).alloc (.cells (row 16 (wv m)).toArray 25)).alloc (.cells (row 16 (iv od)).toArray 109)).alloc (.cells (row 16 (wv fun _=>0#64)).toArray 25) = w1 at *
  have HC1:=hideit (hC.ext HM.out.ext)
  clear hC
  refine wp_region_lit ?_
  refine wpList_load_mid rfl 43 (.global 1) rfl 1 0 rfl (row 32 (iv plF)) _ (fun j u hu=>by
    obtain ⟨hj,rfl⟩:=row_some hu
    rw [Nat.zero_add]
    exact HC1.out.1 j hj) Tryd.underlying43 rfl (by rw [row_length]; exact info58) ?_
  simp only [jk,jq,jv,jy]
  obtain ⟨TB,hTB⟩:∃ TB,TB = (Value.agg (row 32 (iv plF)).toArray):=⟨_,rfl⟩
  have hidx:∀ k:Nat,k < 8 → ∀ X:World,(Instr.index 43 TB (.int .i64 (k:Int))).run Tryd.prog X = .ok (.agg (row 4 (iv fun j=>plF (4 * k + j))).toArray) X:=fun k hk X=>by rw [hTB]; exact idx58 k hk X
  replace hidx:=hideit hidx
  rw [← hTB]
  clear hTB HC1
  have hbb:w.heap.size ≤ w.heap.size:=Nat.le_refl _
  obtain ⟨b,hb⟩:∃ b,b = w.heap.size:=⟨_,rfl⟩
  have hb0:w.heap.size ≤ b:=by omega
  rw [← hb] at HM ⊢
  clear hbb hb
  go_wp2
  go_loopw [12] (fun i wr=>∃ k:Nat,k ≤ 8 ∧ i = .int .i64 k ∧ MS w b (F k) m od wr) (fun i _=>8 - (intOf i).toNat)
  case atStart=>exact ⟨0,by omega,rfl,HM.out⟩
  case round=>
    clear HM
    obtain ⟨k,hk,rfl,hS⟩:=hrel
    have HS:=hideit hS
    clear hS
    by_cases hlt:k < 8
    · have i0:(0:Int) ≤ (k:Int):=by omega
      have i1:(k:Int) < 8:=by omega
      have hix:=hidx.out k hlt
      go_upto_region 3 with (fail)
      refine wp_region_lit ?_
      refine wpList_run rfl (.int .i64 (k:Int)) (by simp [go_sem]) ?_
      simp only [jk,jq,jv,jy]
      refine wpList_run rfl (.agg (row 4 (iv fun j=>plF (4 * k + j))).toArray) (by simp [go_sem,hix]) ?_
      simp only [jk,jq,jv,jy]
      clear hix
      have HN:=hideit (RowAt.new wr 4 (iv fun _=>0) 42)
      have hE4:Ext wr (wr.alloc (.cells (row 4 (iv fun _=>0)).toArray 42)):=(Below.refl _ _).alloc (Nat.le_refl _) _
      refine wpList_to rfl (.pointer (some ⟨wr.heap.size,0,none⟩)) (wr.alloc (.cells (row 4 (iv fun _=>0)).toArray 42)) (by simp [go_sem,hz57]) ?_
      simp only [jk,jq,jv,jy]
      refine wpList_run rfl (.int .i64 (k:Int)) (by simp [go_sem]) ?_
      simp only [jk,jq,jv,jy]
      obtain ⟨pp,hpp⟩:∃ pp,pp = fun j=>plF (4 * k + j):=⟨_,rfl⟩
      rw [← hpp]
      refine wpList_store_mid rfl 42 (.tmp 8) (.tmp 15) rfl _ 0 (row 4 (iv pp)).toArray rfl rfl (by rw [row_size]; exact HN.out.there) (by rw [row_size]; exact info57) (row_one fun _ _=>rfl) ?_
      have hE5:Ext wr ((wr.alloc (.cells (row 4 (iv fun _=>0)).toArray 42)).setCells wr.heap.size 0 (row 4 (iv pp))):=below_setCells wr.heap.size (Nat.le_refl _) _ _ _ hE4
      have HP:=hideit (HN.out.cells (g':=iv pp))
      have HS5:=hideit (HS.out.carry hE5)
      have hb8:b + 3 < wr.heap.size:=HS.out.res.2.2
      generalize (wr.alloc (.cells (row 4 (iv fun _=>0)).toArray 42)).setCells wr.heap.size 0 (row 4 (iv pp)) = w5 at *
      generalize wr.heap.size = b8 at *
      clear HN hE4 hE5 HS
      have hp0:Hid (pp 0 = plF (4 * k) ∧ pp 1 = plF (4 * k + 1) ∧ pp 2 = plF (4 * k + 2) ∧ pp 3 = plF (4 * k + 3)):=by rw [hpp]; exact ⟨rfl,rfl,rfl,rfl⟩
      have hl0:pp 0 < 16:=by rw [hpp]; exact pl_lt _ (by omega)
      have hl1:pp 1 < 16:=by rw [hpp]; exact pl_lt _ (by omega)
      have hl2:pp 2 < 16:=by rw [hpp]; exact pl_lt _ (by omega)
      have hl3:pp 3 < 16:=by rw [hpp]; exact pl_lt _ (by omega)
      clear hpp
      simp only [Act.put]
      go_upto_region 4 with (fail)
      have hne:=kept_ne w5.drew
      have ho0:od (2 * k) < 16:=hod.out _ (by omega)
      have ho1:od (2 * k + 1) < 16:=hod.out _ (by omega)
      have e0:∀ q:Kept (Ext w5.drew),q.w.cell? ⟨b + 2,2 * k,none⟩ = some (.int .i64 ((od (2 * k):Nat):Int)):=fun q=>HS5.out.od.kept (2 * k) (by omega) q
      have e1:∀ q:Kept (Ext w5.drew),q.w.cell? ⟨b + 1,od (2 * k),none⟩ = some (.int .u64 ((m (od (2 * k))).toNat:Int)):=fun q=>HS5.out.wd.kept (od (2 * k)) ho0 q
      have j0:(0:Int) ≤ 2 * (k:Int):=by omega
      have j1:2 * (k:Int) < 16:=by omega
      have j2:(0:Int) ≤ 2 * (k:Int) + 1:=by omega
      have j3:2 * (k:Int) + 1 < 16:=by omega
      have j4:(0:Int) ≤ ((od (2 * k):Nat):Int):=by omega
      have j5:((od (2 * k):Nat):Int) < 16:=by omega
      have j6:(0:Int) ≤ ((od (2 * k + 1):Nat):Int):=by omega
      have j7:((od (2 * k + 1):Nat):Int) < 16:=by omega
      refine wp_region_flo (MS w b (F k) m od) (fun X hX=>HS5.out.carry (Ext.trans (Below.refl _ _).drew hX)) [0,1,2,3,4,5] [6,7,8,9,10,11,12] [13,14] [_,_,_,_,_,_] (by kernel_rfl) (by kernel_rfl) (by decide) rfl (by decide +kernel) (by decide +kernel) (by decide +kernel) (by decide +kernel) (by decide +kernel) (by decide +kernel) (by decide +kernel) (by decide +kernel) (by decide +kernel) ?_
      simp only [List.getElem_toArray,List.getElem_cons_zero,List.getElem_cons_succ]
      refine wpStrong_run 6 rfl ?_
      simp only [List.take_succ_cons,List.take_zero,List.drop_succ_cons,List.drop_zero]
      repeat (go_big_quiet_step (fail))
      refine wpQuiet_nil ?_
      refine wpStrong_nil ?_
      have t1:(2 * (k:Int) + 1).toNat = 2 * k + 1:=by omega
      have wr1:IntKind.i64.wrap (2 * (k:Int)) = 2 * (k:Int):=by rw [IntKind.wrap_i64]; omega
      have wr2:IntKind.i64.wrap (2 * (k:Int) + 1) = 2 * (k:Int) + 1:=by rw [IntKind.wrap_i64]; omega
      refine wpF_one _ (.int .i64 (k:Int)) rfl rfl (fun X _=>by simp [go_sem]) ?_
      simp only [jw,jz,kj,jk,jq,jv,jy]
      refine wpF_one _ (.int .i64 (2 * (k:Int))) rfl rfl (fun X _=>by simp [go_sem,wr1]) ?_
      simp only [jw,jz,kj,jk,jq,jv,jy]
      refine wpF_one _ (.int .i64 (2 * (k:Int) + 1)) rfl rfl (fun X _=>by simp [go_sem,wr2]) ?_
      simp only [jw,jz,kj,jk,jq,jv,jy]
      refine wpF_one _ (.pointer (some ⟨b + 2,2 * k + 1,none⟩)) rfl rfl (fun X _=>by simp [go_sem,j2,j3,t1]) ?_
      simp only [jw,jz,kj,jk,jq,jv,jy]
      refine wpF_one _ (.int .i64 ((od (2 * k + 1):Nat):Int)) rfl rfl (fun X hX=>by
        have e:=hX.od.1 (2 * k + 1) (by omega)
        simp only [iv] at e
        simp [go_sem,e]) ?_
      simp only [jw,jz,kj,jk,jq,jv,jy]
      refine wpF_one _ (.pointer (some ⟨b + 1,od (2 * k + 1),none⟩)) rfl rfl (fun X _=>by simp [go_sem,j6,j7]) ?_
      simp only [jw,jz,kj,jk,jq,jv,jy]
      refine wpF_one _ (.int .u64 ((m (od (2 * k + 1))).toNat:Int)) rfl rfl (fun X hX=>by
        have e:=hX.wd.1 (od (2 * k + 1)) ho1
        simp only [wv] at e
        simp [go_sem,e]) ?_
      simp only [jw,jz,kj,jk,jq,jv,jy]
      refine wpF_nil ?_
      intro X hX
      have hCX:=HS5.out.carry (Ext.trans (Below.refl _ _).drew hX)
      refine wpL_val _ (.int .u64 ((m (od (2 * k))).toNat:Int)) rfl rfl (by simp [go_sem]) hCX ?_
      simp only [jw,jz,kj,jk,jq,jv,jy]
      refine wpL_val _ (.int .u64 ((m (od (2 * k + 1))).toNat:Int)) rfl rfl (by simp [go_sem]) hCX ?_
      refine wpL_nil ?_
      simp only [jw,jz,kj,jk,jq,jv,jy]
      have HS6:=hideit hCX
      have HP6:=hideit (HP.out.carry (Ext.trans (Below.refl _ _).drew hX))
      clear hCX hX hne e0 e1 HS5 HP t1 wr1 wr2
      obtain ⟨xx,hxx⟩:∃ xx,xx = m (od (2 * k)):=⟨_,rfl⟩
      obtain ⟨yy,hyy⟩:∃ yy,yy = m (od (2 * k + 1)):=⟨_,rfl⟩
      rw [← hxx,← hyy]
      have hFk:=hFs.out k
      rw [← hp0.out.1,← hp0.out.2.1,← hp0.out.2.2.1,← hp0.out.2.2.2,← hxx,← hyy] at hFk
      replace hFk:=hideit hFk
      replace hxx:=hideit hxx
      replace hyy:=hideit hyy
      obtain ⟨A',hA'⟩:∃ A',A' = (mix4 (F k (pp 0)) (F k (pp 1)) (F k (pp 2)) (F k (pp 3)) xx yy).1:=⟨_,rfl⟩
      obtain ⟨B',hB'⟩:∃ A',A' = (mix4 (F k (pp 0)) (F k (pp 1)) (F k (pp 2)) (F k (pp 3)) xx yy).2.1:=⟨_,rfl⟩
      obtain ⟨C',hC'⟩:∃ A',A' = (mix4 (F k (pp 0)) (F k (pp 1)) (F k (pp 2)) (F k (pp 3)) xx yy).2.2.1:=⟨_,rfl⟩
      obtain ⟨D',hD'⟩:∃ A',A' = (mix4 (F k (pp 0)) (F k (pp 1)) (F k (pp 2)) (F k (pp 3)) xx yy).2.2.2:=⟨_,rfl⟩
      have hmx:=mix_any (F k (pp 0)) (F k (pp 1)) (F k (pp 2)) (F k (pp 3)) xx yy
      rw [← hA',← hB',← hC',← hD'] at hmx
      replace hmx:=hideit hmx
      have hFk2:Hid (∀ j,F (k + 1) j = if j = pp 3 then D' else if j = pp 2 then C' else if j = pp 1 then B' else if j = pp 0 then A' else F k j):=fun j=>by rw [hFk.out,hA',hB',hC',hD']; rfl
      clear hFk hA' hB' hC' hD'
      go_upto_region 5 with (fail)
      have hne:=kept_ne X.drew
      have q0:∀ q:Kept (Ext X.drew),q.w.cell? ⟨b8,0,none⟩ = some (.int .i64 ((pp 0:Nat):Int)):=fun q=>HP6.out.kept 0 (by omega) q
      have q1:∀ q:Kept (Ext X.drew),q.w.cell? ⟨b8,1,none⟩ = some (.int .i64 ((pp 1:Nat):Int)):=fun q=>HP6.out.kept 1 (by omega) q
      have q2:∀ q:Kept (Ext X.drew),q.w.cell? ⟨b8,2,none⟩ = some (.int .i64 ((pp 2:Nat):Int)):=fun q=>HP6.out.kept 2 (by omega) q
      have q3:∀ q:Kept (Ext X.drew),q.w.cell? ⟨b8,3,none⟩ = some (.int .i64 ((pp 3:Nat):Int)):=fun q=>HP6.out.kept 3 (by omega) q
      have s0:∀ q:Kept (Ext X.drew),q.w.cell? ⟨b,pp 0,none⟩ = some (.int .u64 ((F k (pp 0)).toNat:Int)):=fun q=>HS6.out.st.kept (pp 0) hl0 q
      have s1:∀ q:Kept (Ext X.drew),q.w.cell? ⟨b,pp 1,none⟩ = some (.int .u64 ((F k (pp 1)).toNat:Int)):=fun q=>HS6.out.st.kept (pp 1) hl1 q
      have s2:∀ q:Kept (Ext X.drew),q.w.cell? ⟨b,pp 2,none⟩ = some (.int .u64 ((F k (pp 2)).toNat:Int)):=fun q=>HS6.out.st.kept (pp 2) hl2 q
      have s3:∀ q:Kept (Ext X.drew),q.w.cell? ⟨b,pp 3,none⟩ = some (.int .u64 ((F k (pp 3)).toNat:Int)):=fun q=>HS6.out.st.kept (pp 3) hl3 q
      have m0:(0:Int) ≤ ((pp 0:Nat):Int):=by omega
      have m0':((pp 0:Nat):Int) < 16:=by omega
      have m1:(0:Int) ≤ ((pp 1:Nat):Int):=by omega
      have m1':((pp 1:Nat):Int) < 16:=by omega
      have m2:(0:Int) ≤ ((pp 2:Nat):Int):=by omega
      have m2':((pp 2:Nat):Int) < 16:=by omega
      have m3:(0:Int) ≤ ((pp 3:Nat):Int):=by omega
      have m3':((pp 3:Nat):Int) < 16:=by omega
      refine wp_region_flo (fun Y=>RowAt b8 4 (iv pp) Y) (fun Y hY=>HP6.out.carry (Ext.trans (Below.refl _ _).drew hY)) [0,1,8,9,10,11,12,13,14,15,16,17,18,19,20,21,22,23,24,25,26,27,28] [2,3,4,5,6,7,29,30,31] [32,33,34,35,36,37,38,39] [_,_,_,_,_,_,_,_,_,_,_,_,_,_,_,_,_,_,_,_,_,_,_] (by kernel_rfl) (by kernel_rfl) (by decide) rfl (by decide +kernel) (by decide +kernel) (by decide +kernel) (by decide +kernel) (by decide +kernel) (by decide +kernel) (by decide +kernel) (by decide +kernel) (by decide +kernel) ?_
      simp only [List.getElem_toArray,List.getElem_cons_zero,List.getElem_cons_succ]
      refine wpStrong_run 20 rfl ?_
      simp only [List.take_succ_cons,List.take_zero,List.drop_succ_cons,List.drop_zero]
      repeat (go_big_quiet_step (fail))
      refine wpQuiet_nil ?_
      refine wpStrong_call rfl (fun Y=>by simp [go_sem]) (fun Y _=>(hmx.out Y).mono fun e w' h=>⟨h.1,by rw [h.2]; exact Below.refl _ _⟩) ?_
      simp only [jk,jq,jv,jy]
      refine wpStrong_run 2 rfl ?_
      simp only [List.take_succ_cons,List.take_zero,List.drop_succ_cons,List.drop_zero]
      repeat (go_big_quiet_step (fail))
      refine wpQuiet_nil ?_
      refine wpStrong_nil ?_
      refine wpF_one _ (.pointer (some ⟨b8,1,none⟩)) rfl rfl (fun Y _=>by simp [go_sem]) ?_
      simp only [jw,jz,kj,jk,jq,jv,jy]
      refine wpF_one _ (.int .i64 ((pp 1:Nat):Int)) rfl rfl (fun Y hY=>by
        have e:=hY.1 1 (by omega)
        simp only [iv] at e
        simp [go_sem,e]) ?_
      simp only [jw,jz,kj,jk,jq,jv,jy]
      refine wpF_one _ (.pointer (some ⟨b8,2,none⟩)) rfl rfl (fun Y _=>by simp [go_sem]) ?_
      simp only [jw,jz,kj,jk,jq,jv,jy]
      refine wpF_one _ (.int .i64 ((pp 2:Nat):Int)) rfl rfl (fun Y hY=>by
        have e:=hY.1 2 (by omega)
        simp only [iv] at e
        simp [go_sem,e]) ?_
      simp only [jw,jz,kj,jk,jq,jv,jy]
      refine wpF_one _ (.pointer (some ⟨b8,3,none⟩)) rfl rfl (fun Y _=>by simp [go_sem]) ?_
      simp only [jw,jz,kj,jk,jq,jv,jy]
      refine wpF_one _ (.int .i64 ((pp 3:Nat):Int)) rfl rfl (fun Y hY=>by
        have e:=hY.1 3 (by omega)
        simp only [iv] at e
        simp [go_sem,e]) ?_
      simp only [jw,jz,kj,jk,jq,jv,jy]
      refine wpF_one _ (.int .u64 (B'.toNat:Int)) rfl rfl (fun Y _=>by simp [go_sem]) ?_
      simp only [jw,jz,kj,jk,jq,jv,jy]
      refine wpF_one _ (.int .u64 (C'.toNat:Int)) rfl rfl (fun Y _=>by simp [go_sem]) ?_
      simp only [jw,jz,kj,jk,jq,jv,jy]
      refine wpF_one _ (.int .u64 (D'.toNat:Int)) rfl rfl (fun Y _=>by simp [go_sem]) ?_
      simp only [jw,jz,kj,jk,jq,jv,jy]
      refine wpF_nil ?_
      intro Y hY
      have HS7:=hideit (HS6.out.carry (Ext.trans (Below.refl _ _).drew hY))
      have HP7:=hideit (HP6.out.carry (Ext.trans (Below.refl _ _).drew hY))
      clear hY hne q0 q1 q2 q3 s0 s1 s2 s3 HS6 HP6 hmx
      have e0:=HS7.out.st.1 (pp 0) hl0
      have g0:=HS7.out.st.2.1 (pp 0) hl0
      simp only [wv] at e0
      refine wpL_val _ (.pointer (some ⟨b,pp 0,none⟩)) rfl rfl (by simp [go_sem,m0,m0']) HP7.out ?_
      simp only [jw,jz,kj,jk,jq,jv,jy]
      have HT0:=hideit (HS7.out.set hb0 (pp 0) A')
      have HQ0:=hideit (HP7.out.other ⟨b,pp 0,none⟩ (.int .u64 (A'.toNat:Int)) (by show b ≠ b8; omega))
      refine wpL_skip _ (Y.setCell ⟨b,pp 0,none⟩ (.int .u64 (A'.toNat:Int))) rfl rfl (by simp [go_sem,e0,g0]) HQ0.out ?_
      simp only [List.getElem_toArray,List.getElem_cons_zero,List.getElem_cons_succ,Act.put]
      generalize Y.setCell ⟨b,pp 0,none⟩ (.int .u64 (A'.toNat:Int)) = Y0 at *
      clear e0 g0 HS7 HP7
      have e1:=HT0.out.st.1 (pp 1) hl1
      have g1:=HT0.out.st.2.1 (pp 1) hl1
      simp only [wv] at e1
      refine wpL_val _ (.pointer (some ⟨b,pp 1,none⟩)) rfl rfl (by simp [go_sem,m1,m1']) HQ0.out ?_
      simp only [jw,jz,kj,jk,jq,jv,jy]
      have HT1:=hideit (HT0.out.set hb0 (pp 1) B')
      have HQ1:=hideit (HQ0.out.other ⟨b,pp 1,none⟩ (.int .u64 (B'.toNat:Int)) (by show b ≠ b8; omega))
      refine wpL_skip _ (Y0.setCell ⟨b,pp 1,none⟩ (.int .u64 (B'.toNat:Int))) rfl rfl (by simp [go_sem,e1,g1]) HQ1.out ?_
      simp only [List.getElem_toArray,List.getElem_cons_zero,List.getElem_cons_succ,Act.put]
      generalize Y0.setCell ⟨b,pp 1,none⟩ (.int .u64 (B'.toNat:Int)) = Y1 at *
      clear e1 g1 HT0 HQ0
      have e2:=HT1.out.st.1 (pp 2) hl2
      have g2:=HT1.out.st.2.1 (pp 2) hl2
      simp only [wv] at e2
      refine wpL_val _ (.pointer (some ⟨b,pp 2,none⟩)) rfl rfl (by simp [go_sem,m2,m2']) HQ1.out ?_
      simp only [jw,jz,kj,jk,jq,jv,jy]
      have HT2:=hideit (HT1.out.set hb0 (pp 2) C')
      have HQ2:=hideit (HQ1.out.other ⟨b,pp 2,none⟩ (.int .u64 (C'.toNat:Int)) (by show b ≠ b8; omega))
      refine wpL_skip _ (Y1.setCell ⟨b,pp 2,none⟩ (.int .u64 (C'.toNat:Int))) rfl rfl (by simp [go_sem,e2,g2]) HQ2.out ?_
      simp only [List.getElem_toArray,List.getElem_cons_zero,List.getElem_cons_succ,Act.put]
      generalize Y1.setCell ⟨b,pp 2,none⟩ (.int .u64 (C'.toNat:Int)) = Y2 at *
      clear e2 g2 HT1 HQ1
      have e3:=HT2.out.st.1 (pp 3) hl3
      have g3:=HT2.out.st.2.1 (pp 3) hl3
      simp only [wv] at e3
      refine wpL_val _ (.pointer (some ⟨b,pp 3,none⟩)) rfl rfl (by simp [go_sem,m3,m3']) HQ2.out ?_
      simp only [jw,jz,kj,jk,jq,jv,jy]
      have HT3:=hideit (HT2.out.set hb0 (pp 3) D')
      have HQ3:=hideit (HQ2.out.other ⟨b,pp 3,none⟩ (.int .u64 (D'.toNat:Int)) (by show b ≠ b8; omega))
      refine wpL_skip _ (Y2.setCell ⟨b,pp 3,none⟩ (.int .u64 (D'.toNat:Int))) rfl rfl (by simp [go_sem,e3,g3]) HQ3.out ?_
      refine wpL_nil ?_
      simp only [Act.put]
      have HU:MS w b (F (k + 1)) m od (Y2.setCell ⟨b,pp 3,none⟩ (.int .u64 (D'.toNat:Int))):=by
        have h:=HT3.out
        refine ⟨h.ext,h.st.congr fun j _=>?_,h.wd,h.od,h.res⟩
        simp only [wv]
        rw [hFk2.out j]
      replace HU:=hideit HU
      clear HT3 HQ3 HT2 HQ2
      go_wp2
      exact ⟨⟨k + 1,by omega,by go_num,HU.out⟩,by simp [intOf]; omega⟩
    · obtain rfl:k = 8:=by omega
      go_wp2_with (first | (refine wpList_load_mid rfl 25 (.tmp 3) rfl _ 0 rfl (row 16 (wv (F 8))) _ HS.out.st.range Tryd.underlying25 rfl (by rw [row_length]; exact info46) ?_) | (refine wpList_store_mid rfl 25 (.tmp 6) (.tmp 66) rfl _ 0 (row 16 (wv (F 8))).toArray rfl rfl (by rw [row_size]; exact HS.out.res.there) (by rw [row_size]; exact info46) (row_one fun _ _=>rfl) ?_))
      exact bodyPost_ret (ret_row Tryd.results74 rfl (HS.out.res.cells (g':=wv (F 8))) Tryd.underlying25 rfl info46) rfl ⟨rfl,below_setCells _ (by omega) _ _ _ HS.out.ext⟩
end Go.Proofs.YtfbmeclpcgdmhabDoor
namespace Go.Proofs.YtfbmeclpcgdmhabDoor
open Go.RowKit Go.BigFrame
def loW (x:BitVec 64):BitVec 64:=BitVec.ofNat 64 (x.toNat % 4294967296)
def mW (x y:BitVec 64):BitVec 64:=x * y
theorem loW_nat (x:BitVec 64):(loW x).toNat = x.toNat % 4294967296:=by
  unfold loW
  rw [BitVec.toNat_ofNat]
  omega
theorem mW_wrap (x y:BitVec 64):IntKind.u64.wrap ((x.toNat:Int) * (y.toNat:Int)) = ((mW x y).toNat:Int):=by
  unfold mW
  rw [IntKind.wrap_u64,BitVec.toNat_mul,Int.natCast_emod,Int.natCast_mul]
  rfl
theorem mW_two (y:BitVec 64):IntKind.u64.wrap (2 * (y.toNat:Int)) = ((mW 2#64 y).toNat:Int):=mW_wrap 2#64 y
theorem lo32 (x:BitVec 64):IntKind.u32.wrap (x.toNat:Int) = ((loW x).toNat:Int):=by rw [IntKind.wrap_u32,loW_nat]; omega
theorem lo64 (x:BitVec 64):IntKind.u64.wrap ((loW x).toNat:Int) = ((loW x).toNat:Int):=by have:=(loW x).isLt; rw [IntKind.wrap_u64]; omega
theorem loRem (x:BitVec 64):((x.toNat:Int)).tmod 4294967296 = ((loW x).toNat:Int):=by rw [loW_nat,Int.tmod_eq_emod_of_nonneg (by omega)]; omega
def blF (x y:BitVec 64):BitVec 64:=sW (sW x y) (mW (mW 2#64 (loW x)) (loW y))
set_option maxRecDepth 20000 in
set_option maxHeartbeats 4000000 in
theorem blend_any (x y:BitVec 64) (w:World):Calls Tryd.prog 45 #[.int .u64 ((x).toNat:Int),.int .u64 ((y).toNat:Int)] w fun e w'=>e = .returned (.int .u64 ((blF x y).toNat:Int)) ∧ w' = w:=by
  have f1:=sW_wrap x y
  have f2:=lo32 x
  have f3:=lo64 x
  have f4:=mW_two (loW x)
  have f5:=lo32 y
  have f6:=lo64 y
  have f7:=mW_wrap (mW 2#64 (loW x)) (loW y)
  have f8:=sW_wrap (sW x y) (mW (mW 2#64 (loW x)) (loW y))
  go_enter Tryd.func45,Tryd.ntmps45
  go_upto_region 1 with (fail)
  refine wp_region_lit ?_
  refine wpList_run rfl (.int .u64 ((x).toNat:Int)) (by simp [go_sem]) ?_
  simp only [jk,jq,jv,jy]
  refine wpList_run rfl (.int .u64 ((y).toNat:Int)) (by simp [go_sem]) ?_
  simp only [jk,jq,jv,jy]
  refine wpList_run rfl (.int .u64 ((sW x y).toNat:Int)) (by simp [go_sem,f1]) ?_
  simp only [jk,jq,jv,jy]
  refine wpList_run rfl (.int .u64 ((x).toNat:Int)) (by simp [go_sem]) ?_
  simp only [jk,jq,jv,jy]
  refine wpList_run rfl (.int .u32 ((loW x).toNat:Int)) (by simp [go_sem,f2]) ?_
  simp only [jk,jq,jv,jy]
  refine wpList_run rfl (.int .u64 ((loW x).toNat:Int)) (by simp [go_sem,f3]) ?_
  simp only [jk,jq,jv,jy]
  refine wpList_run rfl (.int .u64 ((mW 2#64 (loW x)).toNat:Int)) (by simp [go_sem,f4]) ?_
  simp only [jk,jq,jv,jy]
  refine wpList_run rfl (.int .u64 ((y).toNat:Int)) (by simp [go_sem]) ?_
  simp only [jk,jq,jv,jy]
  refine wpList_run rfl (.int .u32 ((loW y).toNat:Int)) (by simp [go_sem,f5]) ?_
  simp only [jk,jq,jv,jy]
  refine wpList_run rfl (.int .u64 ((loW y).toNat:Int)) (by simp [go_sem,f6]) ?_
  simp only [jk,jq,jv,jy]
  refine wpList_run rfl (.int .u64 ((mW (mW 2#64 (loW x)) (loW y)).toNat:Int)) (by simp [go_sem,f7]) ?_
  simp only [jk,jq,jv,jy]
  refine wpList_run rfl (.int .u64 ((blF x y).toNat:Int)) (by simp [go_sem,f8,blF]) ?_
  simp only [jk,jq,jv,jy]
  go_wp2
  go_ret
  exact ⟨rfl,rfl⟩
set_option maxRecDepth 20000 in
set_option maxHeartbeats 4000000 in
theorem rplus_any (x y:BitVec 64) (w:World):Calls Tryd.prog 77 #[.int .u64 ((x).toNat:Int),.int .u64 ((y).toNat:Int)] w fun e w'=>e = .returned (.int .u64 ((blF x y).toNat:Int)) ∧ w' = w:=by
  have f1:=sW_wrap x y
  have f2:=loRem x
  have f4:=mW_two (loW x)
  have f5:=loRem y
  have f7:=mW_wrap (mW 2#64 (loW x)) (loW y)
  have f8:=sW_wrap (sW x y) (mW (mW 2#64 (loW x)) (loW y))
  go_enter Tryd.func77,Tryd.ntmps77
  go_upto_region 1 with (fail)
  refine wp_region_lit ?_
  refine wpList_run rfl (.int .u64 ((x).toNat:Int)) (by simp [go_sem]) ?_
  simp only [jk,jq,jv,jy]
  refine wpList_run rfl (.int .u64 ((y).toNat:Int)) (by simp [go_sem]) ?_
  simp only [jk,jq,jv,jy]
  refine wpList_run rfl (.int .u64 ((sW x y).toNat:Int)) (by simp [go_sem,f1]) ?_
  simp only [jk,jq,jv,jy]
  refine wpList_run rfl (.int .u64 ((x).toNat:Int)) (by simp [go_sem]) ?_
  simp only [jk,jq,jv,jy]
  refine wpList_run rfl (.int .u64 ((loW x).toNat:Int)) (by simp [go_sem,f2]) ?_
  simp only [jk,jq,jv,jy]
  refine wpList_run rfl (.int .u64 ((mW 2#64 (loW x)).toNat:Int)) (by simp [go_sem,f4]) ?_
  simp only [jk,jq,jv,jy]
  refine wpList_run rfl (.int .u64 ((y).toNat:Int)) (by simp [go_sem]) ?_
  simp only [jk,jq,jv,jy]
  refine wpList_run rfl (.int .u64 ((loW y).toNat:Int)) (by simp [go_sem,f5]) ?_
  simp only [jk,jq,jv,jy]
  refine wpList_run rfl (.int .u64 ((mW (mW 2#64 (loW x)) (loW y)).toNat:Int)) (by simp [go_sem,f7]) ?_
  simp only [jk,jq,jv,jy]
  refine wpList_run rfl (.int .u64 ((blF x y).toNat:Int)) (by simp [go_sem,f8,blF]) ?_
  simp only [jk,jq,jv,jy]
  go_wp2
  go_ret
  exact ⟨rfl,rfl⟩
set_option maxHeartbeats 1000000 in
theorem mright_any (a:BitVec 64) (n:Nat) (hn:n = 32 ∨ n = 24 ∨ n = 16 ∨ n = 63) (w:World):
    Calls Tryd.prog 46 #[.int .i64 (n:Int),.int .u64 (a.toNat:Int)] w fun e w'=>e = .returned (.int .u64 ((rR n a).toNat:Int)) ∧ w' = w:=by
  have n0:(0:Int) ≤ (n:Int):=by omega
  have n1:(n:Int) ≤ 63:=by omega
  go_enter Tryd.func46,Tryd.ntmps46
  go_wp2_with (go_at_call 62; refine (rot_any a n hn _).mono ?_; rintro e w' ⟨rfl,rfl⟩)
  go_ret
  exact ⟨rfl,rfl⟩
set_option maxHeartbeats 1000000 in
theorem mturn_any (a:BitVec 64) (n:Nat) (hn:n = 32 ∨ n = 24 ∨ n = 16 ∨ n = 63) (w:World):
    Calls Tryd.prog 78 #[.int .i64 (n:Int),.int .u64 (a.toNat:Int)] w fun e w'=>e = .returned (.int .u64 ((rR n a).toNat:Int)) ∧ Below w.heap.size w w':=by
  have ha:=a.isLt
  have r32:bits .or .u64 ((a.toNat:Int) / 4294967296) ((a.toNat:Int) * 4294967296 % 18446744073709551616) = ((rR 32 a).toNat:Int):=rot_nat' a 32
  replace r32:=hideit r32
  have r24:bits .or .u64 ((a.toNat:Int) / 16777216) ((a.toNat:Int) * 1099511627776 % 18446744073709551616) = ((rR 24 a).toNat:Int):=rot_nat' a 24
  replace r24:=hideit r24
  have r16:bits .or .u64 ((a.toNat:Int) / 65536) ((a.toNat:Int) * 281474976710656 % 18446744073709551616) = ((rR 16 a).toNat:Int):=rot_nat' a 16
  replace r16:=hideit r16
  have r63:bits .or .u64 ((a.toNat:Int) / 9223372036854775808) ((a.toNat:Int) * 2 % 18446744073709551616) = ((rR 63 a).toNat:Int):=rot_nat' a 63
  replace r63:=hideit r63
  rcases hn with rfl | rfl | rfl | rfl
  · go_enter Tryd.func78,Tryd.ntmps78
    go_wp2
    go_quiet (fail)
    go_wp2
    go_ret
    exact ⟨ret_int r32.out,below_drewN _ _⟩
  · go_enter Tryd.func78,Tryd.ntmps78
    go_wp2
    go_quiet (fail)
    go_wp2
    go_ret
    exact ⟨ret_int r24.out,below_drewN _ _⟩
  · go_enter Tryd.func78,Tryd.ntmps78
    go_wp2
    go_quiet (fail)
    go_wp2
    go_ret
    exact ⟨ret_int r16.out,below_drewN _ _⟩
  · go_enter Tryd.func78,Tryd.ntmps78
    go_wp2
    go_quiet (fail)
    go_wp2
    go_ret
    exact ⟨ret_int r63.out,below_drewN _ _⟩
def st4 (a b c d:BitVec 64):BitVec 64 × BitVec 64 × BitVec 64 × BitVec 64:=
  let a1:=blF a b
  let d1:=rR 32 (xW d a1)
  let c1:=blF c d1
  let b1:=rR 24 (xW b c1)
  let a2:=blF a1 b1
  let d2:=rR 16 (xW d1 a2)
  let c2:=blF c1 d2
  let b2:=rR 63 (xW b1 c2)
  (a2,b2,c2,d2)
set_option maxRecDepth 20000 in
set_option maxHeartbeats 4000000 in
theorem stir_any (a b c d:BitVec 64) (w:World):
    Calls Tryd.prog 20 #[.int .u64 ((a).toNat:Int),.int .u64 ((b).toNat:Int),.int .u64 ((c).toNat:Int),.int .u64 ((d).toNat:Int)] w fun e w'=>e = .returned (.tuple #[.int .u64 ((st4 a b c d).1.toNat:Int),.int .u64 ((st4 a b c d).2.1.toNat:Int),.int .u64 ((st4 a b c d).2.2.1.toNat:Int),.int .u64 ((st4 a b c d).2.2.2.toNat:Int)]) ∧ w' = w:=by
  obtain ⟨a1,ha1⟩:∃ p,p = blF a b:=⟨_,rfl⟩
  obtain ⟨q1,hq1⟩:∃ p,p = xW d a1:=⟨_,rfl⟩
  obtain ⟨d1,hd1⟩:∃ p,p = rR 32 q1:=⟨_,rfl⟩
  obtain ⟨c1,hc1⟩:∃ p,p = blF c d1:=⟨_,rfl⟩
  obtain ⟨q2,hq2⟩:∃ p,p = xW b c1:=⟨_,rfl⟩
  obtain ⟨b1,hb1⟩:∃ p,p = rR 24 q2:=⟨_,rfl⟩
  obtain ⟨a2,ha2⟩:∃ p,p = blF a1 b1:=⟨_,rfl⟩
  obtain ⟨q3,hq3⟩:∃ p,p = xW d1 a2:=⟨_,rfl⟩
  obtain ⟨d2,hd2⟩:∃ p,p = rR 16 q3:=⟨_,rfl⟩
  obtain ⟨c2,hc2⟩:∃ p,p = blF c1 d2:=⟨_,rfl⟩
  obtain ⟨q4,hq4⟩:∃ p,p = xW b1 c2:=⟨_,rfl⟩
  obtain ⟨b2,hb2⟩:∃ p,p = rR 63 q4:=⟨_,rfl⟩
  have hm:st4 a b c d = (a2,b2,c2,d2):=by
    rw [hb2,hq4,hc2,hd2,hq3,ha2,hb1,hq2,hc1,hd1,hq1,ha1]
    rfl
  rw [hm]
  have f3:=xW_fact d a1
  rw [← hq1] at f3
  have f5:=xW_fact b c1
  rw [← hq2] at f5
  have f8:=xW_fact d1 a2
  rw [← hq3] at f8
  have f10:=xW_fact b1 c2
  rw [← hq4] at f10
  have s1:=hideit (blend_any a b)
  rw [← ha1] at s1
  have s2:=hideit (blend_any c d1)
  rw [← hc1] at s2
  have s3:=hideit (blend_any a1 b1)
  rw [← ha2] at s3
  have s4:=hideit (blend_any c1 d2)
  rw [← hc2] at s4
  have r1:=hideit (mright_any q1 32 (by decide))
  rw [← hd1] at r1
  have r2:=hideit (mright_any q2 24 (by decide))
  rw [← hb1] at r2
  have r3:=hideit (mright_any q3 16 (by decide))
  rw [← hd2] at r3
  have r4:=hideit (mright_any q4 63 (by decide))
  rw [← hb2] at r4
  clear hm ha1 hq1 hd1 hc1 hq2 hb1 ha2 hq3 hd2 hc2 hq4 hb2
  go_enter Tryd.func20,Tryd.ntmps20
  go_upto_region 2 with (go_at_call 45; refine (s1.out _).mono ?_; rintro e w' ⟨rfl,hw'⟩; subst hw'; clear s1)
  go_upto_region 3 with (go_at_call 46; refine (r1.out _).mono ?_; rintro e w' ⟨rfl,hw'⟩; subst hw'; clear r1)
  go_upto_region 4 with (go_at_call 45; refine (s2.out _).mono ?_; rintro e w' ⟨rfl,hw'⟩; subst hw'; clear s2)
  go_upto_region 5 with (go_at_call 46; refine (r2.out _).mono ?_; rintro e w' ⟨rfl,hw'⟩; subst hw'; clear r2)
  go_upto_region 6 with (go_at_call 45; refine (s3.out _).mono ?_; rintro e w' ⟨rfl,hw'⟩; subst hw'; clear s3)
  go_upto_region 7 with (go_at_call 46; refine (r3.out _).mono ?_; rintro e w' ⟨rfl,hw'⟩; subst hw'; clear r3)
  go_upto_region 8 with (go_at_call 45; refine (s4.out _).mono ?_; rintro e w' ⟨rfl,hw'⟩; subst hw'; clear s4)
  go_upto_region 9 with (go_at_call 46; refine (r4.out _).mono ?_; rintro e w' ⟨rfl,hw'⟩; subst hw'; clear r4)
  go_wp2
  exact bodyPost_ret (v:=.tuple #[.int .u64 (a2.toNat:Int),.int .u64 (b2.toNat:Int),.int .u64 (c2.toNat:Int),.int .u64 (d2.toNat:Int)]) (by simp [results,Tryd.results20]) rfl ⟨rfl,rfl⟩
def rowSt (v:Nat → BitVec 64) (p0 p1 p2 p3:Nat) (j:Nat):BitVec 64:=
  if j = p3 then (st4 (v p0) (v p1) (v p2) (v p3)).2.2.2 else if j = p2 then (st4 (v p0) (v p1) (v p2) (v p3)).2.2.1 else if j = p1 then (st4 (v p0) (v p1) (v p2) (v p3)).2.1 else if j = p0 then (st4 (v p0) (v p1) (v p2) (v p3)).1 else v j
def stK (v:Nat → BitVec 64):Nat → Nat → BitVec 64
  | 0=>v
  | k + 1=>rowSt (stK v k) (plF (4 * k)) (plF (4 * k + 1)) (plF (4 * k + 2)) (plF (4 * k + 3))
end Go.Proofs.YtfbmeclpcgdmhabDoor
