/-
  Both tables of places, read off the row's condition.
-/
import Derived.Test.YtfbmeclpcgdmhabDoorQk47
import Derived.Test.YtfbmeclpcgdmhabDoorQk10
namespace Go.Proofs.YtfbmeclpcgdmhabDoor
open Go.RowKit Go.ChangeShapes Go.WideShapes Go.ChangeAt
theorem gMx : Tryd.prog.globalNamed "casket/mix.places" = some 0 := by kernel_rfl
theorem gMxType:(Tryd.prog.globals[0]?).map (·.type) = some 43:=by kernel_rfl
theorem tab_of {W:World} {nm:String} {g:Nat} (hg:Tryd.prog.globalNamed nm = some g) {cs:Array Value} (hvar:W.var? Tryd.prog nm = some cs) {fuel:Nat} {p:List MemPlace}
    (hd:DataW.trod (fun _=>()) Tryd.prog W 0 (fun _=>true) false fuel 43 cs.toList = some (Rows.laid_casket_blake_places,p)) (n:Nat) (hn:n < 32):W.cell? ⟨g,n,none⟩ = some (iv plF n):=by
  obtain ⟨xs,m,_,hx,hlen,hxl,hel⟩:=DataW.trod_array Tryd.underlying43 hd
  have hxs:xs.map (·.1) = (List.range 8).map fun i=>(Lib.tabData .i64 (plR i):DataW Unit):=by
    have h1:=congrArg Prod.fst hx
    rw [laid_rows] at h1
    simp only [DataW.agg.injEq] at h1
    exact h1.symm
  have hi:n / 4 < 8:=by omega
  have hj:n % 4 < 4:=by omega
  have h2:=hel (n / 4) hi
  rw [List.getElem?_eq_getElem (by omega),cells57] at h2
  have h3:(xs[n / 4]'(by omega)).1 = Lib.tabData .i64 (plR (n / 4)):=by
    have h4:=congrArg (·[n / 4]?) hxs
    simp only [List.getElem?_map,List.getElem?_range hi,Option.map_some] at h4
    rw [List.getElem?_eq_getElem (by omega)] at h4
    simpa using h4
  have h5:=h2.trans (congrArg some (Prod.ext h3 rfl:xs[n / 4]'(by omega) = (Lib.tabData .i64 (plR (n / 4)),(xs[n / 4]'(by omega)).2)))
  have h6:=Lib.cells_of_tab Tryd.underlying42 Tryd.underlying3 cells3 cells57 h5
  have h7:=congrArg (·[n % 4]?) h6
  simp only [List.getElem?_take,hj,if_true,List.getElem?_drop,List.getElem?_map] at h7
  obtain ⟨h8,h9⟩:=pl_rows (n / 4) hi (n % 4) hj
  rw [List.getElem?_eq_getElem (l:=plR (n / 4)) (i:=n % 4) (by omega)] at h7
  have h10:(plR (n / 4))[n % 4]'(by omega) = ((plF n:Nat):Int):=by
    rw [List.getD_eq_getElem?_getD,List.getElem?_eq_getElem (by omega),Option.getD_some] at h8
    rw [h8,show 4 * (n / 4) + n % 4 = n by omega]
  rw [show n / 4 * 4 + n % 4 = n by omega,h10] at h7
  rw [Array.getElem?_toList] at h7
  have h11:=World.var?_cell hg hvar n
  rw [h7] at h11
  simpa [iv] using h11
theorem tab_two {W : World} (h : laidMet Tryd.prog [("casket/blake.places", Rows.laid_casket_blake_places), ("casket/mix.places", Rows.laid_casket_mix_places)] W) :
    (∀ n,n < 32 → W.cell? ⟨1,n,none⟩ = some (iv plF n)) ∧ ∀ n,n < 32 → W.cell? ⟨0,n,none⟩ = some (iv plF n):=by
  obtain ⟨ps,⟨g',t',cs,fuel,p,q,hg',ht',hvar,hd,⟨g2,t2,cs2,fuel2,p2,q2,hg2,ht2,hvar2,hd2,_,_⟩,_⟩,_⟩:=h
  obtain rfl:=Option.some.inj (gPl.symm.trans hg')
  obtain rfl:=Option.some.inj (gPlType.symm.trans ht')
  obtain rfl:=Option.some.inj (gMx.symm.trans hg2)
  obtain rfl:=Option.some.inj (gMxType.symm.trans ht2)
  exact ⟨fun n hn=>tab_of gPl hvar hd n hn,fun n hn=>tab_of gMx hvar2 hd2 n hn⟩
end Go.Proofs.YtfbmeclpcgdmhabDoor
