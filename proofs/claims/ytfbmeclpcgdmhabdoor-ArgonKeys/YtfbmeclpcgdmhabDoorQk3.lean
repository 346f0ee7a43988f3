/-
  Rows of cells in a block of their own, told by a function on places: plain facts on worlds, no word of the program. A region that draws its order, by an invariant over the operations that are done: each operation is looked at once, whatever the order.
-/
import Derived.WalkKit
import Derived.Deep.MidRow
import Derived.Below
import Derived.Orders
namespace Go.Proofs.YtfbmeclpcgdmhabDoor
open Go.RowKit
def row (n:Nat) (g:Nat → Value):List Value:=(List.range n).map g
theorem row_length (n:Nat) (g:Nat → Value):(row n g).length = n:=by simp [row]
theorem row_get (n:Nat) (g:Nat → Value) (j:Nat) (h:j < n):(row n g)[j]? = some (g j):=by simp [row,h]
theorem row_some {n:Nat} {g:Nat → Value} {j:Nat} {v:Value} (h:(row n g)[j]? = some v):j < n ∧ v = g j:=by
  by_cases hj:j < n
  · rw [row_get n g j hj] at h; exact ⟨hj,(Option.some.inj h).symm⟩
  · rw [List.getElem?_eq_none (by rw [row_length]; omega)] at h; cases h
theorem row_ext {n:Nat} {g g':Nat → Value} (h:∀ j,j < n → g j = g' j):row n g = row n g':=by
  apply List.map_congr_left
  intro j hj
  exact h j (by simpa using hj)
theorem row_one {n:Nat} {g:Nat → Value} (h:∀ j,j < n → (g j).oneCell' = true):(row n g).toArray.all (·.oneCell') = true:=
  all_oneCell_toArray (fun v hv=>by
    obtain ⟨j,hj,rfl⟩:=List.mem_map.1 hv
    exact h j (by simpa using hj))
theorem row_size (n:Nat) (g:Nat → Value):(row n g).toArray.size = n:=by simp [row_length]
def RowAt (b n:Nat) (g:Nat → Value) (w:World):Prop:=
  (∀ j,j < n → w.cell? ⟨b,j,none⟩ = some (g j)) ∧ (∀ j,j < n → w.frozen? ⟨b,j,none⟩ = false) ∧ b < w.heap.size
theorem RowAt.range {b n:Nat} {g:Nat → Value} {w:World} (h:RowAt b n g w):w.rangeAt b 0 (row n g):=fun j v hv=>by
  obtain ⟨hj,rfl⟩:=row_some hv
  simpa using h.1 j hj
theorem RowAt.there {b n:Nat} {g:Nat → Value} {w:World} (h:RowAt b n g w):w.there b 0 n:=fun j hj=>by
  have h1:=h.1 j hj
  have h2:=h.2.1 j hj
  simp [h1,h2]
theorem RowAt.carry {b n:Nat} {g:Nat → Value} {X w':World} (h:RowAt b n g X) (hB:Below X.heap.size X w'):RowAt b n g w':=
  ⟨fun j hj=>(hB.cell (p:=⟨b,j,none⟩) h.2.2).trans (h.1 j hj),fun j hj=>(hB.frozen (p:=⟨b,j,none⟩) h.2.2).trans (h.2.1 j hj),Nat.lt_of_lt_of_le h.2.2 hB.size⟩
theorem RowAt.drew {b n:Nat} {g:Nat → Value} {w:World} (h:RowAt b n g w):RowAt b n g w.drew:=h
theorem RowAt.other {b n:Nat} {g:Nat → Value} {w:World} (h:RowAt b n g w) (p:Addr) (v:Value) (hp:p.block ≠ b):RowAt b n g (w.setCell p v):=
  ⟨fun j hj=>by rw [World.cell?_setCell_other _ _ _ _ (fun e=>hp (by rw [e]))]; exact h.1 j hj,fun j hj=>by rw [World.frozen?_setCell]; exact h.2.1 j hj,by rw [World.size_setCell]; exact h.2.2⟩
theorem RowAt.set {b n:Nat} {g:Nat → Value} {w:World} (h:RowAt b n g w) (i:Nat) (v:Value):RowAt b n (fun j=>if j = i then v else g j) (w.setCell ⟨b,i,none⟩ v):=
  ⟨fun j hj=>by
    by_cases e:j = i
    · subst e
      rw [World.cell?_setCell_same _ _ _ (h.1 j hj)]; simp
    · rw [World.cell?_setCell_other _ _ _ _ (by intro h2; injection h2 with _ h3 _; exact e h3.symm),h.1 j hj]; simp [e],
   fun j hj=>by rw [World.frozen?_setCell]; exact h.2.1 j hj,by rw [World.size_setCell]; exact h.2.2⟩
theorem RowAt.congr {b n:Nat} {g g':Nat → Value} {w:World} (h:RowAt b n g w) (e:∀ j,j < n → g j = g' j):RowAt b n g' w:=
  ⟨fun j hj=>by rw [← e j hj]; exact h.1 j hj,h.2⟩
theorem RowAt.alloc {b n:Nat} {g:Nat → Value} {w:World} (h:RowAt b n g w) (o:Obj):RowAt b n g (w.alloc o):=
  ⟨fun j hj=>by rw [World.cell?_alloc_lt _ _ _ (by exact h.2.2)]; exact h.1 j hj,fun j hj=>by
    have:=(Below.refl w.heap.size w).alloc (Nat.le_refl _) o
    rw [this.frozen (p:=⟨b,j,none⟩) h.2.2]; exact h.2.1 j hj,by simp; have:=h.2.2; omega⟩
theorem RowAt.new (w:World) (n:Nat) (g:Nat → Value) (t:TypeId):RowAt w.heap.size n g (w.alloc (.cells (row n g).toArray t)):=
  ⟨fun j hj=>by rw [World.cell?_alloc_new]; simp [row_get n g j hj],fun j _=>by simp [go_sem],by simp⟩
theorem RowAt.newOf (w:World) (n:Nat) (g:Nat → Value) (t:TypeId) (C:Array Value) (hC:∀ j,j < n → C[j]? = some (g j)):RowAt w.heap.size n g (w.alloc (.cells C t)):=
  ⟨fun j hj=>by rw [World.cell?_alloc_new]; exact hC j hj,fun j _=>by simp [go_sem],by simp⟩
theorem size_setCells (b:Nat):∀ (vs:List Value) (o:Nat) (w:World),(w.setCells b o vs).heap.size = w.heap.size
  | [],_,_=>rfl
  | v :: r,o,w=>by rw [World.setCells,size_setCells b r (o + 1)]; simp
theorem below_setCells {B:Nat} {w:World} (b:Nat) (hb:B ≤ b):∀ (vs:List Value) (o:Nat) (X:World),Below B w X → Below B w (X.setCells b o vs)
  | [],_,_,h=>h
  | v :: r,o,X,h=>by rw [World.setCells]; exact below_setCells b hb r (o + 1) _ (h.setCell hb _)
theorem RowAt.cellsOther {b n c:Nat} {g:Nat → Value} {w:World} (h:RowAt b n g w) (hc:c ≠ b) (vs:List Value) (o:Nat):RowAt b n g (w.setCells c o vs):=
  ⟨fun j hj=>by rw [World.cell?_setCells_out c vs o w ⟨b,j,none⟩ (fun e=>absurd e.symm hc)]; exact h.1 j hj,fun j hj=>by rw [World.frozen?_setCells]; exact h.2.1 j hj,by rw [size_setCells]; exact h.2.2⟩
theorem RowAt.cells {b n:Nat} {g g':Nat → Value} {w:World} (h:RowAt b n g w):RowAt b n g' (w.setCells b 0 (row n g')):=by
  have ht:w.there b 0 (row n g').length:=by rw [row_length]; exact h.there
  refine ⟨fun j hj=>?_,fun j hj=>?_,?_⟩
  · have:=World.rangeAt_setCells_same w b 0 (row n g') ht j (g' j) (row_get n g' j hj)
    simpa using this
  · rw [World.frozen?_setCells]; exact h.2.1 j hj
  · rw [size_setCells]; exact h.2.2
end Go.Proofs.YtfbmeclpcgdmhabDoor
namespace Go.Proofs.YtfbmeclpcgdmhabDoor
open Go.RowKit
section
variable {P:Program} {md:Region.Mode} {ops:Array Oper} {Q:Exit → Act → World → Prop}
theorem wpOp_plain {i:Nat} {o:Oper} {K:Act → World → Prop} {a:Act} {w:World} (ho:ops[i]? = some o) (hg:o.guard = none) (h:o.wp P a w K Q):wpOp P ops Q i K a w:=by
  unfold wpOp
  rw [ho]
  have:Region.wanted o (yielded ops a.tmps) = true:=by unfold Region.wanted; rw [hg]
  simp only [this,if_true]
  exact .inl h
theorem count_set_lt (l:List Bool) (i:Nat) (h:l[i]? = some false):(l.set i true).count false < l.count false:=by
  induction l generalizing i with
  | nil=>simp at h
  | cons b l ih=>
    cases i with
    | zero=>
      simp at h
      subst h
      simp
    | succ i=>
      simp at h
      have:=ih i h
      simp only [List.set_cons_succ,List.count_cons]
      omega
theorem wpAny_inv (I:Array Bool → Act → World → Prop)
    (hstep:∀ listed a w i o,I listed a w → ops[i]? = some o → listed.getD i true = false → (∀ e ∈ o.after,Region.binds md e = true → listed.getD e.on false = true) → wpOp P ops Q i (I (listed.setIfInBounds i true)) a w)
    (hend:∀ listed a w,I listed a w → Region.ready md ops listed = [] → Q .normal a w):
    ∀ fuel listed a w,listed.toList.count false ≤ fuel → I listed a w → wpAny P md ops Q fuel listed a w:=by
  intro fuel
  induction fuel with
  | zero=>
    intro listed a w hc hI
    have hr:Region.ready md ops listed = []:=by
      apply List.eq_nil_iff_forall_not_mem.2
      intro j hj
      obtain ⟨h0,_⟩:=mem_ready.1 hj
      have h1:listed.toList[j]? = some false:=by
        rw [Array.getElem?_toList]
        unfold Array.getD at h0
        split at h0
        · rename_i hlt
          rw [Array.getElem?_eq_getElem hlt]; exact congrArg some h0
        · cases h0
      have h2:=count_set_lt _ _ h1
      omega
    exact ⟨hr,hend _ _ _ hI hr⟩
  | succ fuel ih=>
    intro listed a w hc hI
    refine ⟨hend _ _ _ hI,fun i hi=>?_⟩
    obtain ⟨h0,o,ho,hall⟩:=mem_ready.1 hi
    have h1:listed.toList[i]? = some false:=by
      rw [Array.getElem?_toList]
      unfold Array.getD at h0
      split at h0
      · rename_i hlt
        rw [Array.getElem?_eq_getElem hlt]; exact congrArg some h0
      · cases h0
    have h2:=count_set_lt _ _ h1
    refine wpOp_mono (fun a' w' h=>ih _ a' w' ?_ h) (hstep listed a w i o hI ho h0 hall)
    rw [Array.toList_setIfInBounds]
    omega
theorem wp_region_inv {id:Nat} {a:Act} {w:World} (I:Array Bool → Act → World → Prop) (hm:P.follows .mixedOrders = true) (h0:I (Array.replicate ops.size false) a w.drew)
    (hstep:∀ listed a w i o,I listed a w → ops[i]? = some o → listed.getD i true = false → (∀ e ∈ o.after,Region.binds .any e = true → listed.getD e.on false = true) → wpOp P ops Q i (I (listed.setIfInBounds i true)) a w)
    (hend:∀ listed a w,I listed a w → Region.ready .any ops listed = [] → Q .normal a w):(Code.region id ops true).wp P Q a w:=
  wp_region_any hm (wpAny_inv I hstep hend _ _ _ _ (by simp) h0)
end
end Go.Proofs.YtfbmeclpcgdmhabDoor
