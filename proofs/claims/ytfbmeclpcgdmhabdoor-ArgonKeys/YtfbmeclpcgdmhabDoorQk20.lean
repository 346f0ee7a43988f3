/-
  How arrays of bytes and of words that came in read. How slices of bytes that came in read.
-/
import Derived.Test.YtfbmeclpcgdmhabDoorQk18
import Derived.ProofKit
import Derived.OpenShut
import Derived.Test.YtfbmeclpcgdmhabDoorQk6
import Derived.SizedLaws
namespace Go.Proofs.YtfbmeclpcgdmhabDoor
open Go.ChangeShapes Go.WideShapes Go.ChangeAt Go.RowKit
theorem of_wf8 {n:Int} (h:(Lit.int .u8 n).wf = true):∃ a:BitVec 8,n = (a.toNat:Int):=by
  have hb:=bounds_u8 h
  exact ⟨BitVec.ofNat 8 n.toNat,by rw [BitVec.toNat_ofNat]; omega⟩
end Go.Proofs.YtfbmeclpcgdmhabDoor
namespace Go.Proofs.YtfbmeclpcgdmhabDoor
set_option maxRecDepth 20000
open Go.ChangeShapes Go.WideShapes Go.ChangeAt Go.RowKit
def BArg (v:Value) (W:World):Prop:=v = .slice none 0 0 ∨ ∃ a l cap b,v = .slice (some a) l cap ∧ l ≤ cap ∧ LieAt a l (yv b) W ∧ l ≤ 140737488351232
theorem has_lt {P:Program} {w:World} {r:Reach} {base n:Nat} {a:Addr} {e:TypeId} (h:w.has P r base a e n):a.block < w.heap.size:=by
  obtain ⟨_,_,row,cells,hs,_⟩:=h
  rcases Nat.lt_or_ge a.block w.heap.size with h1 | h1
  · exact h1
  · exfalso
    have h2:w.heap[a.block]? = none:=Array.getElem?_eq_none h1
    unfold World.shape? at hs
    rw [h2] at hs
    cases hs
theorem open_bytes {H:Type} {enc:TypeId × Value → H} {W:World} {r:Reach} {b0 base:Nat} {spare:Nat → Bool} {held:Bool} {v:Value} {d:DataW H} {p:List MemPlace}
    (hv:Value.okWide Tryd.prog W r b0 32 v) (h:DataW.Trod enc Tryd.prog W base spare held 32 v d p):v = .slice none 0 0 ∨ ∃ a l cap b elems sp,v = .slice (some a) l cap ∧ l ≤ cap ∧ LieAt a l (yv b) W ∧ d = .slice elems sp ∧ elems.length = l:=by
  obtain ⟨a,len,cap,rfl⟩:=okWide_slice Tryd.underlying32 hv
  obtain ⟨fuel,hf⟩:=h
  rcases open_ints Tryd.underlying32 Tryd.underlying5 (by kernel_rfl) hf with ⟨hcs,_⟩ | ⟨x,l,c,zs,hcs,_,hl,hm,hz,hd,hcell,hwz⟩
  · simp [Value.cells] at hcs
    obtain ⟨rfl,rfl,rfl⟩:=hcs
    exact .inl rfl
  · simp [Value.cells] at hcs
    obtain ⟨rfl,rfl,rfl⟩:=hcs
    have hlt:x.block < W.heap.size:=by
      simp only [Value.okWide,Tryd.underlying32,Cell.okWide,Cell.ok] at hv
      exact has_lt hv.2.2
    have hlen:len ≤ zs.length:=by rw [hz]; split <;> omega
    have hall:∀ i,i < len → ∃ c:BitVec 8,zs.getD i 0 = (c.toNat:Int):=fun i hi=>by
      refine of_wf8 (hwz _ ?_)
      rw [List.getD_eq_getElem?_getD,List.getElem?_eq_getElem (by omega),Option.getD_some]
      exact List.getElem_mem _
    refine .inr ⟨x,len,cap,fun i=>if h:i < len then (hall i h).choose else 0#8,_,_,rfl,hl,⟨fun j hj=>?_,hlt⟩,(Prod.mk.inj hd).1,by simp [lits]; omega⟩
    rw [hcell j (by omega)]
    simp only [yv,dif_pos hj]
    rw [← (hall j hj).choose_spec]
theorem BArg.bv {v:Value} {w:World} (h:BArg v w):∃ l b,BV v l b w ∧ l ≤ 140737488351232:=by
  rcases h with rfl | ⟨a,l,cap,b,rfl,hl,hb,hm⟩
  · exact ⟨0,fun _=>0#8,.inl ⟨rfl,rfl⟩,by omega⟩
  · exact ⟨l,b,.inr ⟨a,cap,rfl,hl,hb⟩,hm⟩
theorem partsOne (X:World) (v:Value) (N:Nat) (M:Nat → BitVec 8) (h:BV v N M (X.alloc (.cells #[v] 32))):Parts (.slice (some ⟨X.heap.size,0,none⟩) 1 1) 1 (fun _=>v) (fun _=>N) (fun _=>M) (X.alloc (.cells #[v] 32)):=
  ⟨.inr ⟨_,1,rfl,Nat.le_refl _,lieNew X 1 _ 32 (0,0) _ (fun j hj=>by
    obtain rfl:j = 0:=by omega
    rfl)⟩,fun i hi=>h⟩
end Go.Proofs.YtfbmeclpcgdmhabDoor
