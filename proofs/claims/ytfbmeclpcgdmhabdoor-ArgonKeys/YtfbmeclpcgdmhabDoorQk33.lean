/-
  A law for regions that draw their order, in which two blocks are made and one of them is written while operations that only read may still stand out: a, b := x, y. A memory on its way.
-/
import Derived.Test.YtfbmeclpcgdmhabDoorQk4
import Derived.Test.YtfbmeclpcgdmhabDoorQk32
import Derived.Laws.MakeOwn
import Derived.Test.YtfbmeclpcgdmhabDoorQk16
namespace Go.Proofs.YtfbmeclpcgdmhabDoor
open Go.RowKit
section
variable {P:Program} {ops:Array Oper} {W:World} {Q:Exit → Act → World → Prop}
def Writes (P:Program) (ops:Array Oper) (o:Oper) (b n:Nat) (g g':Nat → Value) (a:Act):Prop:=
  Region.wanted o (yielded ops a.tmps) = true ∧ ∀ w,RowAt b n g w → (execOp a.eval o).run P w = .ok .skip (w.setCells b 0 (row n g'))
theorem Writes.put {o:Oper} {b n:Nat} {g g':Nat → Value} {u:Value} {a:Act} {d:Option Tmp} (hs:∀ cs b,o.op ≠ .select cs b) (h:∀ t,d = some t → t ∉ o.looksAt ops):Writes P ops o b n g g' (a.put d u) ↔ Writes P ops o b n g g' a:=by
  unfold Writes
  rw [execOp_put (ops:=ops) o hs a d u h,wanted_put o a d u h]
structure MildCAt (P:Program) (ops:Array Oper) (W:World) (Q:Exit → Act → World → Prop) (q:Nat) (mk:Nat → Nat × (Nat → Value)) (E:Act → List Made → Prop) (n1 n2:Nat) (g2 g1':Nat → Value) (L:Array Bool) (A:Act) (w:World):Prop where
  size:L.size = ops.size
  closed:Closed ops L
  way:((∀ i,q + 2 ≤ i → i < ops.size → L.getD i false = false) ∧ ∃ T,Ext W w ∧ Holds T w ∧ wpS P ops W (fun A'=>wpM ops W.heap.size mk E (left L q 2) A' T) (left L 0 q) A) ∨
    ((∀ i,q ≤ i → i < q + 3 → L.getD i false = true) ∧ (∀ i,q + 3 ≤ i → i < ops.size → L.getD i false = false) ∧ ∃ b1 b2,Ext W w ∧ RowAt b1 n1 g1' w ∧ RowAt b2 n2 g2 w ∧ wpS P ops W (fun A'=>∀ w',Ext W w' → RowAt b1 n1 g1' w' → RowAt b2 n2 g2 w' → wpList P ops Q (ops.toList.drop (q + 3)) A' w') (left L 0 q) A) ∨
    (∃ j,q + 3 < j ∧ j ≤ ops.size ∧ (∀ i,i < j → L.getD i false = true) ∧ (∀ i,j ≤ i → i < ops.size → L.getD i false = false) ∧ wpList P ops Q (ops.toList.drop j) A w)
end
end Go.Proofs.YtfbmeclpcgdmhabDoor
namespace Go.Proofs.YtfbmeclpcgdmhabDoor
open Go.RowKit Go.BigFrame
set_option linter.unusedVariables false
theorem elem80:ElemB Tryd.prog 80 61 24:=elem_b Tryd.underlying80 (by kernel_rfl) (by kernel_rfl) (by kernel_rfl)
theorem info24z:(Tryd.prog.info? 24).map (fun i=>(i.zero,i.size,i.bytes)) = some (some (.agg (row 128 (wv fun _=>0#64)).toArray),128,1024):=by kernel_rfl
theorem info_parts3 {P:Program} {e:TypeId} {z:Value} {size bytes:Nat} (h:(P.info? e).map (fun i=>(i.zero,i.size,i.bytes)) = some (some z,size,bytes)):∃ i,P.info? e = some i ∧ i.zero = some z ∧ i.size = size ∧ i.bytes = bytes:=by
  cases hi:P.info? e with
  | none=>rw [hi] at h; cases h
  | some i=>
    rw [hi] at h
    simp only [Option.map_some,Option.some.injEq,Prod.mk.injEq] at h
    exact ⟨i,rfl,h.1,h.2.1,h.2.2⟩
theorem exec_made {P:Program} {o:Oper} {a:Act} {w:World} (t e:TypeId) (x y:Operand) (ho:o.op = .makeSlice t x y) (z:Value) (size bytes n:Nat) (hu:P.underlying t = some (.slice e)) (hi:(P.info? e).map (fun i=>(i.zero,i.size,i.bytes)) = some (some z,size,bytes))
    (hx:a.eval x = .int .i64 (n:Int)) (hy:a.eval y = .int .i64 (n:Int)) (hb:bytes * n ≤ 140737488355328) (hn:n ≤ 140737488355328):(execOp a.eval o).run P w = .ok (.value (.slice (some ⟨w.heap.size,0,none⟩) n n)) (w.alloc (.cells (madeCells z.cells (n * size)) e)):=by
  obtain ⟨ti,hi1,hi2,hi3,hi4⟩:=info_parts3 hi
  have h9:((bytes * n:Nat):Int) ≤ 281474976710656:=by omega
  rw [Int.natCast_mul] at h9
  have hr:=run_make (P:=P) w t e ti z hu hi1 hi2 .i64 .i64 n n (by omega) (Int.le_refl _) (by rw [hi4]; exact h9) (by omega)
  rw [hi3] at hr
  simp only [Int.toNat_natCast] at hr
  unfold execOp
  simp only [ho,hx,hy,hr,Sem.run_bind,Sem.run_pure,Result.andThen_ok]
theorem made_pg (w:World) (n:Nat):RowAt w.heap.size (128 * n) (wv fun _=>0#64) (w.alloc (.cells (madeCells (Value.agg (row 128 (wv fun _=>0#64)).toArray).cells (n * 128)) 24)):=by
  obtain ⟨Z,hZ⟩:∃ Z,Z = (row 128 (wv fun _=>0#64)).toArray:=⟨_,rfl⟩
  have hsz:Z.size = 128:=by rw [hZ,row_size]
  have hget:∀ i,i < 128 → Z[i]? = some (wv (fun _=>0#64) 0):=fun i hi=>by
    rw [hZ,List.getElem?_toArray]
    exact row_get 128 _ _ hi
  rw [← hZ]
  clear hZ
  refine RowAt.newOf w (128 * n) _ 24 _ fun j hj=>?_
  show (madeCells Z (n * 128))[j]? = _
  unfold madeCells
  rw [Array.getElem?_map,Array.getElem?_range,if_pos (by omega),Option.map_some,hsz,getElem!_def,hget _ (Nat.mod_lt _ (by decide))]
  rfl
def mkV (T M L s:Nat) (v:Value):Nat → Value:=fun j=>if j = 0 then .int .i64 (T:Int) else if j = 1 then .int .i64 (M:Int) else if j = 2 then .int .i64 (L:Int) else if j = 3 then .int .i64 (s:Int) else v
structure Mk (B p T M L s l:Nat) (u v:Value) (bk:Nat → Nat) (Mw:Nat → BitVec 64) (X:World):Prop where
  rc:RowAt p 5 (mkV T M L s u) X
  own:OwnB B 61 v l (fun i=>.slice (some ⟨bk i,0,none⟩) (4 * s) (4 * s)) X
  pg:∀ i,i < l → RowAt (bk i) (128 * (4 * s)) (wv fun j=>Mw (128 * (4 * s * i) + j)) X
  dj:∀ i,i < l → bk i ≠ p ∧ v.ownBlock ≠ some (bk i) ∧ B ≤ bk i ∧ ∀ i',i' < l → bk i = bk i' → i = i'
  op:v.ownBlock ≠ some p ∧ B ≤ p
def up1 {α:Type} (f:Nat → α) (n:Nat) (a:α):Nat → α:=fun i=>if i = n then a else f i
section
variable {B p T M L s l:Nat} {u v:Value} {bk:Nat → Nat} {Mw M2:Nat → BitVec 64} {X Y:World}
theorem Mk.ext (h:Mk B p T M L s l u v bk Mw X) (k:Ext X Y):Mk B p T M L s l u v bk Mw Y:=⟨h.rc.carry k,h.own.ext k,fun i hi=>(h.pg i hi).carry k,h.dj,h.op⟩
theorem Mk.app (h:Mk B p T M L s l v v bk Mw X) (hB:B ≤ X.heap.size) (b:Nat) (hb:RowAt b (128 * (4 * s)) (wv fun j=>M2 (128 * (4 * s * l) + j)) X) (hbB:B ≤ b) (hbp:b ≠ p) (hbv:v.ownBlock ≠ some b) (hbk:∀ i,i < l → bk i ≠ b)
    (hM:∀ i,i < l → ∀ j,j < 128 * (4 * s) → M2 (128 * (4 * s * i) + j) = Mw (128 * (4 * s * i) + j)) (hl:l < 4) (ty:TypeId):
    ∃ v' Y,(Builtin.append_ #[80,80] ty #[v,.slice (some ⟨X.heap.size,0,none⟩) 1 1]).run Tryd.prog (X.alloc (.cells #[.slice (some ⟨b,0,none⟩) (4 * s) (4 * s)] 61)) = .ok v' Y ∧ Mk B p T M L s (l + 1) v v' (up1 bk l b) M2 Y ∧ Below B X Y:=by
  have hX1:Ext X (X.alloc (.cells #[.slice (some ⟨b,0,none⟩) (4 * s) (4 * s)] 61)):=(Below.refl _ _).alloc (Nat.le_refl _) _
  have hr:=row_new1 X (.slice (some ⟨b,0,none⟩) (4 * s) (4 * s)) 61
  have h1:=h.ext hX1
  have hb1:=hb.carry hX1
  have hs1:=Below.size hX1
  have hlt:∀ i,i < l → bk i < X.heap.size:=fun i hi=>(h.pg i hi).2.2
  have hpl:=h.rc.2.2
  have hbl:=hb.2.2
  generalize X.alloc (.cells #[.slice (some ⟨b,0,none⟩) (4 * s) (4 * s)] 61) = X1 at *
  obtain ⟨i,zz,e1,e2,e3,e4,e5⟩:=elem80.info
  obtain ⟨v',Y,a1,a2,a3,_,a5⟩:=run_append_own_at (P:=Tryd.prog) X1 B 80 ty 61 i zz 1 24 elem80.slice e1 e2 e3 e4 e5 (by decide) v l _ h1.own ⟨X.heap.size,0,none⟩ 1 1 [.slice (some ⟨b,0,none⟩) (4 * s) (4 * s)] rfl (fun j x hj=>by
    cases j with
    | zero=>simp at hj; subst hj; exact hr.1 0 (by decide)
    | succ j=>simp at hj) (fun x hx=>by simp at hx; subst hx; rfl) (by unfold maxLen; omega) (by omega) (by omega)
  have hown:∀ z,z < X.heap.size → v.ownBlock ≠ some z → v'.ownBlock ≠ some z:=fun z hz hn e=>by
    rcases a5 with q | q
    · exact hn (q ▸ e)
    · rw [q] at e
      have e:X1.heap.size = z:=Option.some.inj e
      omega
  have o1:∀ {α:Type} (f:Nat → α) (x:α),up1 f l x l = x:=fun f x=>by unfold up1; rw [if_pos rfl]
  have o2:∀ {α:Type} (f:Nat → α) (x:α) (i:Nat),i < l → up1 f l x i = f i:=fun f x i hi=>by unfold up1; rw [if_neg (by omega)]
  refine ⟨v',Y,a1,⟨h1.rc.grown a3 fun e=>h.op.1 e.symm,?_,fun i hi=>?_,fun i hi=>?_,hown p hpl h.op.1,h.op.2⟩,Below.trans (Below.mono hX1 hB) (below_grown (by omega) a3 fun q hq=>(h1.own.lt q hq).1)⟩
  · unfold OwnB
    rw [show row (l + 1) (fun i=>Value.slice (some ⟨up1 bk l b i,0,none⟩) (4 * s) (4 * s)) = row l (fun i=>Value.slice (some ⟨bk i,0,none⟩) (4 * s) (4 * s)) ++ [.slice (some ⟨b,0,none⟩) (4 * s) (4 * s)] from ?_]
    · exact a2
    · rw [← row_append l 1 (fun i=>Value.slice (some ⟨bk i,0,none⟩) (4 * s) (4 * s)) (fun _=>.slice (some ⟨b,0,none⟩) (4 * s) (4 * s)) _ (fun j hj=>by rw [o2 _ _ _ hj]) (fun j hj=>by rw [show l + j = l by omega,o1])]
      rfl
  · by_cases e:i = l
    · subst e
      rw [o1]
      exact hb1.grown a3 fun e=>hbv e.symm
    · have hi':i < l:=by omega
      rw [o2 _ _ _ hi']
      exact ((h1.pg i hi').grown a3 fun e=>(h.dj i hi').2.1 e.symm).congr fun j hj=>by
        unfold wv
        dsimp only
        rw [hM i hi' j hj]
  · by_cases e:i = l
    · subst e
      rw [o1]
      refine ⟨hbp,hown b hbl hbv,hbB,fun i' hi' q=>?_⟩
      by_cases e2:i' = i
      · exact e2.symm
      · rw [o2 _ _ _ (by omega)] at q
        exact absurd q.symm (hbk i' (by omega))
    · have hi':i < l:=by omega
      obtain ⟨d1,d2,d3,d4⟩:=h.dj i hi'
      rw [o2 _ _ _ hi']
      refine ⟨d1,hown _ (hlt i hi') d2,d3,fun i' hi2 q=>?_⟩
      by_cases e2:i' = l
      · subst e2
        rw [o1] at q
        exact absurd q (hbk i hi')
      · rw [o2 _ _ _ (by omega)] at q
        exact d4 i' (by omega) q
theorem Mk.st (h:Mk B p T M L s l u v bk Mw X):Mk B p T M L s l v v bk Mw (X.setCell ⟨p,4,none⟩ v):=by
  refine ⟨(h.rc.set 4 v).congr fun j hj=>?_,h.own.other ⟨p,4,none⟩ h.op.1 v,fun i hi=>(h.pg i hi).other ⟨p,4,none⟩ v (Ne.symm (h.dj i hi).1),h.dj,h.op⟩
  unfold mkV
  rcases (by omega:j = 0 ∨ j = 1 ∨ j = 2 ∨ j = 3 ∨ j = 4) with rfl | rfl | rfl | rfl | rfl <;> rfl
theorem Mk.mm (h:Mk B p T M L s L v v bk Mw X) (hL:0 < L):∃ lb lc,Mm B p T M L s lb lc bk Mw X:=by
  obtain ⟨g,cap,e,_,_,_,hR⟩:=h.own.lies hL
  refine ⟨g,cap,h.rc.congr fun j hj=>by rw [e]; rfl,hR,h.pg,fun i hi=>?_⟩
  obtain ⟨d1,d2,d3,d4⟩:=h.dj i hi
  refine ⟨d1,fun q=>d2 ?_,d3,d4⟩
  rw [e,q]
  rfl
theorem Mk.one (h:Mk B p T M L s l u v bk Mw X):v.oneCell' = true:=by
  rcases h.own.2 with ⟨e,_⟩ | ⟨g,cc,cur,e,_⟩ <;> rw [e] <;> rfl
end
theorem bgA_zero (s:Nat) (sd:Nat → BitVec 8) (hs:2 ≤ s):∀ l J,128 * (4 * s * l) ≤ J → bgA s sd l J = 0#64
  | 0,J,_=>rfl
  | l + 1,J,h=>by
    have e:4 * s * (l + 1) = 4 * s * l + 4 * s:=Nat.mul_succ _ _
    unfold bgA upA
    rw [if_neg (by omega),if_neg (by omega)]
    exact bgA_zero s sd hs l J (by omega)
theorem bgA_lane (s:Nat) (sd:Nat → BitVec 8) (hs:2 ≤ s) (l i j:Nat) (hi:i < l) (hj:j < 128 * (4 * s)):bgA s sd (l + 1) (128 * (4 * s * i) + j) = bgA s sd l (128 * (4 * s * i) + j):=by
  show upA (upA (bgA s sd l) (4 * s * l) (bgP sd 0 l)) (4 * s * l + 1) (bgP sd 1 l) _ = _
  have e:=lane_apart (s:=s) (l:=l) (l':=i) (i:=1) (j:=j) (by omega) hj (by omega)
  have e0:=lane_apart (s:=s) (l:=l) (l':=i) (i:=0) (j:=j) (by omega) hj (by omega)
  rw [Nat.add_zero] at e0
  unfold upA
  rw [if_neg e,if_neg e0]
def inM (s:Nat) (sd:Nat → BitVec 8) (l:Nat):Nat → Nat → BitVec 64
  | 0=>bgA s sd l
  | i + 1=>upA (inM s sd l i) (4 * s * l + i) (bgP sd i l)
theorem inM_end (s:Nat) (sd:Nat → BitVec 8) (l:Nat):inM s sd l 2 = bgA s sd (l + 1):=rfl
theorem in_part {b s l i:Nat} {F y:Nat → BitVec 64} {X:World} (h:RowAt b (128 * (4 * s)) (wv fun j=>F (128 * (4 * s * l) + j)) X) (hi:i < 4 * s):RowAt b (128 * (4 * s)) (wv fun j=>upA F (4 * s * l + i) y (128 * (4 * s * l) + j)) (X.setCells b (i * 128) (row 128 (wv y))):=by
  refine (h.part (i * 128) 128 (wv y) (by omega)).congr fun j hj=>?_
  unfold wv upA
  dsimp only
  by_cases c:i * 128 ≤ j ∧ j < i * 128 + 128
  · rw [if_pos c,if_pos (by omega),show 128 * (4 * s * l) + j - 128 * (4 * s * l + i) = j - i * 128 by omega]
  · rw [if_neg c,if_neg (by omega)]
end Go.Proofs.YtfbmeclpcgdmhabDoor
