/-
  A secret that came in, with how long its texts may be. The table of places, read off the row's condition.
-/
import Derived.Test.YtfbmeclpcgdmhabDoorQk46
import Derived.Test.YtfbmeclpcgdmhabDoorQk9
import Derived.Test.YtfbmeclpcgdmhabDoorRows
import Derived.OpenShut
import Derived.Lib.LaidTab
namespace Go.Proofs.YtfbmeclpcgdmhabDoor
set_option maxRecDepth 20000
open Go.ChangeShapes Go.WideShapes Go.ChangeAt Go.RowKit
theorem trod_stW {H:Type} {enc:TypeId × Value → H} {P:Program} {w:World} {base:Nat} {spare:Nat → Bool} {held:Bool} {t:TypeId} {fs:List Field} {fuel:Nat} {cs:List Value} {x:DataW H × List MemPlace} (ht:P.underlying t = some (.struct fs.toArray)) (h:DataW.trod enc P w base spare held fuel t cs = some x):
    ∃ n,cs.length = P.cellsOf t ∧ ∀ (i:Nat) (f:Field),fs[i]? = some f → ∃ y,DataW.trod enc P w base spare held n f.type ((cs.drop f.offset).take (P.cellsOf f.type)) = some y ∧ ∀ m ∈ y.1.weights P f.type,m ∈ x.1.weights P t:=by
  obtain ⟨xs,n,_,hx,hl,hlen,hf⟩:=DataW.trod_struct ht h
  refine ⟨n,hl,fun i f hi=>?_⟩
  have hi2:fs.toArray[i]? = some f:=by simpa using hi
  have hlt:i < xs.length:=by
    have:=(List.getElem?_eq_some_iff.1 hi).1
    simp at hlen
    omega
  refine ⟨xs[i],by rw [hf i f hi2,List.getElem?_eq_getElem hlt],fun m hm=>?_⟩
  rw [hx]
  simp only [DataW.weights,ht]
  exact DataW.weights_mem_each (j:=i) (by simp [hi]) (by simp [hlt]) m hm
def SArgW (v:Value) (W:World):Prop:=∃ (o:Nat → Option Addr) (l k:Nat → Nat) (f:Nat → Nat → BitVec 8),v = .agg (row 4 (scv (.slice (o 0) (l 0) (k 0)) (.slice (o 1) (l 1) (k 1)) (.slice (o 2) (l 2) (k 2)) (.slice (o 3) (l 3) (k 3)))).toArray ∧ ∀ i,i < 4 → BV (.slice (o i) (l i) (k i)) (l i) (f i) W ∧ l i ≤ 140737488351232
set_option maxRecDepth 100000 in
theorem sargW {H:Type} {enc:TypeId × Value → H} {W:World} {r:Reach} {b0 base:Nat} {spare:Nat → Bool} {held:Bool} {v:Value} {d:DataW H} {p:List MemPlace} {ts:List TypeId} {ds:List (DataW H)}
    (hv:Value.okWide Tryd.prog W r b0 34 v) (h:DataW.Trod enc Tryd.prog W base spare held 34 v d p) (hsz:(DataW.weightsEach Tryd.prog ts ds).all (· ≤ reachBytes) = true) (jj:Nat) (htt:ts[jj]? = some 34) (hd:ds[jj]? = some d):SArgW v W:=by
  have hC:Tryd.prog.cellsOf 34 = 4:=by kernel_rfl
  have c32:Tryd.prog.cellsOf 32 = 1:=by kernel_rfl
  have hts:Tryd.prog.cellTypes Tryd.prog.depth 34 = some [32,32,32,32]:=by kernel_rfl
  obtain ⟨cs,rfl,hcs,ts,ht,_,hok⟩:=okWide_st Tryd.underlying34 hv
  rw [hts] at ht
  injection ht with ht
  subst ht
  rw [hC] at hcs
  obtain ⟨fuel,hf⟩:=h
  have hall:∀ n ∈ d.weights Tryd.prog 34,n ≤ reachBytes:=fun n hn=>by
    have:=List.all_eq_true.1 hsz _ (DataW.weights_mem_each htt hd n hn)
    simpa using this
  obtain ⟨m,hl,hfl⟩:=trod_stW (fs := [_,_,_,_]) Tryd.underlying34 hf
  have hfs:∀ i,i < 4 → ∃ y,DataW.trod enc Tryd.prog W base spare held m 32 ((cs.toList.drop i).take 1) = some y ∧ ∀ n ∈ y.1.weights Tryd.prog 32,n ≤ reachBytes:=fun i hi=>by
    rcases (by omega:i = 0 ∨ i = 1 ∨ i = 2 ∨ i = 3) with rfl | rfl | rfl | rfl
    · obtain ⟨y,h1,h2⟩:=hfl 0 _ rfl; rw [c32] at h1; exact ⟨y,h1,fun n hn=>hall n (h2 n hn)⟩
    · obtain ⟨y,h1,h2⟩:=hfl 1 _ rfl; rw [c32] at h1; exact ⟨y,h1,fun n hn=>hall n (h2 n hn)⟩
    · obtain ⟨y,h1,h2⟩:=hfl 2 _ rfl; rw [c32] at h1; exact ⟨y,h1,fun n hn=>hall n (h2 n hn)⟩
    · obtain ⟨y,h1,h2⟩:=hfl 3 _ rfl; rw [c32] at h1; exact ⟨y,h1,fun n hn=>hall n (h2 n hn)⟩
  have key:∀ i,i < 4 → ∃ (o:Option Addr) (l k:Nat) (f:Nat → BitVec 8),cs[i]? = some (.slice o l k) ∧ BV (.slice o l k) l f W ∧ l ≤ 140737488351232:=fun i hi=>by
    obtain ⟨u,hu⟩:∃ u,cs[i]? = some u:=⟨_,Array.getElem?_eq_getElem (by omega)⟩
    obtain ⟨t,h1,h2⟩:=hok i u hu
    have ht:t = 32:=by
      rcases (by omega:i = 0 ∨ i = 1 ∨ i = 2 ∨ i = 3) with rfl | rfl | rfl | rfl <;> (injection h1 with h1; exact h1.symm)
    subst ht
    have hw:Value.okWide Tryd.prog W r b0 32 u:=by
      unfold Value.okWide
      rw [Tryd.underlying32]
      exact h2
    obtain ⟨y,hy,hyw⟩:=hfs i hi
    have hone:(cs.toList.drop i).take 1 = [u]:=by
      apply List.ext_getElem?
      intro q
      cases q with
      | zero=>rw [sub_cells (by decide),Nat.add_zero,Array.getElem?_toList,hu]; rfl
      | succ q=>rw [List.getElem?_eq_none (by simp; omega),List.getElem?_eq_none (by simp)]
    rw [hone] at hy
    obtain ⟨a0,ln,cp,rfl⟩:=okWide_slice Tryd.underlying32 hw
    rcases open_bytes hw ⟨m,hy⟩ with e | ⟨a,l,cap,f,elems,sp,e,hc,hL,hyd,hel⟩
    · injection e with e1 e2 e3
      subst e1 e2 e3
      exact ⟨none,0,0,fun _=>0#8,hu,.inl ⟨rfl,rfl⟩,by omega⟩
    · injection e with e1 e2 e3
      subst e1 e2 e3
      have b5:Tryd.prog.bytesOf 5 = 1:=by kernel_rfl
      have h1:=hyw ((elems.length + sp.length) * Tryd.prog.bytesOf 5) (by rw [hyd]; simp [DataW.weights,Tryd.underlying32])
      rw [b5] at h1
      unfold reachBytes at h1
      exact ⟨_,_,_,f,hu,.inr ⟨_,_,rfl,hc,hL⟩,by omega⟩
  refine ⟨fun i=>if h:i < 4 then (key i h).choose else none,fun i=>if h:i < 4 then (key i h).choose_spec.choose else 0,fun i=>if h:i < 4 then (key i h).choose_spec.choose_spec.choose else 0,fun i=>if h:i < 4 then (key i h).choose_spec.choose_spec.choose_spec.choose else fun _=>0#8,?_,fun i hi=>?_⟩
  · have hl4:cs.toList.length = 4:=by simpa using hcs
    congr 1
    apply Array.ext'
    rw [row_of hl4 fun i hi=>?_]
    rw [Array.getElem?_toList,(key i hi).choose_spec.choose_spec.choose_spec.choose_spec.1]
    rcases (by omega:i = 0 ∨ i = 1 ∨ i = 2 ∨ i = 3) with rfl | rfl | rfl | rfl <;> rfl
  · simp only [dif_pos hi]
    exact (key i hi).choose_spec.choose_spec.choose_spec.choose_spec.2
end Go.Proofs.YtfbmeclpcgdmhabDoor
namespace Go.Proofs.YtfbmeclpcgdmhabDoor
open Go.RowKit Go.ChangeShapes Go.WideShapes Go.ChangeAt
def plR (i:Nat):List Int:=([[0,4,8,12],[1,5,9,13],[2,6,10,14],[3,7,11,15],[0,5,10,15],[1,6,11,12],[2,7,8,13],[3,4,9,14]]:List (List Int)).getD i []
theorem gPl : Tryd.prog.globalNamed "casket/blake.places" = some 1 := by kernel_rfl
theorem gPlType:(Tryd.prog.globals[1]?).map (·.type) = some 43:=by kernel_rfl
theorem cells57:Tryd.prog.cellsOf 42 = 4:=by kernel_rfl
theorem cells3:Tryd.prog.cellsOf 3 = 1:=by kernel_rfl
theorem laid_rows {H:Type}:(Rows.laid_casket_blake_places:DataW H) = .agg ((List.range 8).map fun i=>Lib.tabData .i64 (plR i)):=rfl
theorem pl_rows:∀ i,i < 8 → ∀ j,j < 4 → (plR i).getD j 0 = ((plF (4 * i + j):Nat):Int) ∧ (plR i).length = 4:=by decide +kernel
end Go.Proofs.YtfbmeclpcgdmhabDoor
