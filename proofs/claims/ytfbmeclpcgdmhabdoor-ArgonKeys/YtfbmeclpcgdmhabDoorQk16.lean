/-
  Bytes that are made: zeros, in a block of the call's own. Cells of a slice of the call's own, set.
-/
import Derived.Test.YtfbmeclpcgdmhabDoorQk6
import Derived.Test.YtfbmeclpcgdmhabDoorQk5
import Derived.OwnWalk
import Derived.Lib.BufferMore
namespace Go.Proofs.YtfbmeclpcgdmhabDoor
open Go.RowKit Go.BigFrame
theorem made_row (k:Nat):(madeCells (Value.int .u8 0).cells (k * 1)).toList = row k (yv fun _=>0#8):=by
  apply List.ext_getElem?
  intro i
  by_cases h:i < k
  · rw [row_get k _ i h]
    simp [madeCells,Value.cells,h,Nat.mod_one,yv]
  · rw [List.getElem?_eq_none (by simp [madeCells]; omega),List.getElem?_eq_none (by rw [row_length]; omega)]
theorem wpList_made {P:Program} {t e:TypeId} (w:World) {ops:Array Oper} {rest:List Oper} {o:Oper} {a:Act} {Q:Exit → Act → World → Prop}
    (hu:P.underlying t = some (.slice e)) (hi:(P.info? e).map (fun i=>(i.zero,i.size,i.bytes)) = some (some (.int .u8 0),1,1)) (hg:o.guard = none) (l c:Operand) (hop:o.op = Op.makeSlice t l c)
    (n:Nat) (hl:a.eval l = .int .i64 (n:Int)) (hc:a.eval c = .int .i64 (n:Int)) (b:n ≤ 140737488355328)
    (hK:∀ w',OwnB w.heap.size e (.slice (some ⟨w.heap.size,0,none⟩) n n) n (yv fun _=>0#8) w' → Ext w w' → wpList P ops Q rest (a.put o.dst (.slice (some ⟨w.heap.size,0,none⟩) n n)) w'):
    wpList P ops Q (o :: rest) a w:=by
  obtain ⟨ti,hi1,hi2,hi3,hi4⟩:=info_parts hi
  refine wpList_make_full w hg l c t hop w.heap.size e ti (.int .u8 0) 1 hu hi1 hi2 hi3 .i64 .i64 (n:Int) (n:Int) n hl hc rfl rfl (by rw [hi4]; omega) (by unfold maxLen; omega) (Nat.le_refl _) ?_
  intro w1 hO hg1
  rw [made_row n] at hO
  exact hK w1 hO ⟨hg1.os,hg1.tape,hg1.output,hg1.size,fun k hk=>hg1.block k hk (by simp)⟩
end Go.Proofs.YtfbmeclpcgdmhabDoor
namespace Go.Proofs.YtfbmeclpcgdmhabDoor
open Go.RowKit Go.BigFrame
section
variable {base:Nat} {e:TypeId} {v:Value} {n:Nat} {g:Nat → Value} {w:World}
theorem OwnB.down (h:OwnB base e v n g w) {base':Nat} (hb:base' ≤ base):OwnB base' e v n g w:=by
  obtain ⟨h1,h2⟩:=h
  refine ⟨h1,?_⟩
  rcases h2 with h2 | ⟨k,cap,cur,hv,hg,r⟩
  · exact .inl h2
  · exact .inr ⟨k,cap,cur,hv,Nat.le_trans hb hg,r⟩
theorem OwnB.set (h:OwnB base e v n g w) {b:Nat} (hb:v.ownBlock = some b) (i:Nat) (hi:i < n) (u:Value):OwnB base e v n (fun j=>if j = i then u else g j) (w.setCell ⟨b,i,none⟩ u):=by
  obtain ⟨h1,h2⟩:=h
  refine ⟨by rw [row_length,Nat.mul_one],?_⟩
  rcases h2 with ⟨rfl,h0⟩ | ⟨k,cap,cur,rfl,hg,hh,hc,hm,hs,ht⟩
  · omega
  · simp only [Value.ownBlock,Option.some.injEq] at hb
    subst hb
    refine .inr ⟨k,cap,cur.setIfInBounds i u,rfl,hg,Lib.heap_setCell_same hh u,hc,hm,by simpa using hs,?_⟩
    rw [Nat.mul_one] at ht hs ⊢
    apply List.ext_getElem?
    intro j
    have hj0:∀ j,j < n → cur.toList[j]? = some (g j):=fun j hj=>by
      have:=congrArg (fun l=>l[j]?) ht
      simp only [List.getElem?_take,hj,if_true,row_get n g j hj] at this
      exact this
    by_cases hj:j < n
    · rw [row_get n _ j hj,List.getElem?_take,if_pos hj,Array.toList_setIfInBounds,List.getElem?_set]
      by_cases e:i = j
      · subst e
        rw [if_pos rfl,if_pos rfl,if_pos (by simp; omega)]
      · rw [if_neg e,if_neg (Ne.symm e)]
        exact hj0 j hj
    · rw [List.getElem?_eq_none (by simp; omega),List.getElem?_eq_none (by rw [row_length]; omega)]
theorem OwnB.other (h:OwnB base e v n g w) (a:Addr) (ha:v.ownBlock ≠ some a.block) (u:Value):OwnB base e v n g (w.setCell a u):=by
  obtain ⟨h1,h2⟩:=h
  refine ⟨h1,?_⟩
  rcases h2 with h2 | ⟨k,cap,cur,hv,hg,hh,r⟩
  · exact .inl h2
  · subst hv
    refine .inr ⟨k,cap,cur,rfl,hg,?_,r⟩
    rw [Below.heap_setCell _ _ _ _ (fun e=>ha (by simp [Value.ownBlock,e]))]
    exact hh
end
end Go.Proofs.YtfbmeclpcgdmhabDoor
