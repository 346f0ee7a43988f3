/-
  Short names.
-/
import Derived.WalkKit
namespace Go.Proofs.YtfbmeclpcgdmhabDoor
open Go.RowKit Go.BigFrame
theorem jk (a:Act) (d:Tmp) (v:Value):a.put (some d) v = { a with tmps:=a.tmps.setIfInBounds d v }:=rfl
theorem jq {α:Type} (l:List α) (i:Nat) (a:α):l.toArray.setIfInBounds i a = (l.set i a).toArray:=List.setIfInBounds_toArray ..
theorem jv {α:Type} (x a:α) (l:List α):(x :: l).set 0 a = a :: l:=rfl
theorem jy {α:Type} (x a:α) (l:List α) (n:Nat):(x :: l).set (n + 1) a = x :: l.set n a:=rfl
theorem jw {α:Type} (l:List α) (i:Nat) (h:i < l.toArray.size):l.toArray[i] = l[i]'(by simpa using h):=List.getElem_toArray ..
theorem jz {α:Type} (a:α) (l:List α) (h:0 < (a :: l).length):(a :: l)[0] = a:=rfl
theorem kj {α:Type} (a:α) (l:List α) (i:Nat) (h:i + 1 < (a :: l).length):(a :: l)[i + 1] = l[i]'(Nat.lt_of_succ_lt_succ h):=rfl
end Go.Proofs.YtfbmeclpcgdmhabDoor
