/-
  For every length, parameters and secret: the key, what the check says and how many pages there are is what the document tells, and the texts are left as they were; the package-level tables of places are as the program lays them.
-/
import Derived.Test.YtfbmeclpcgdmhabDoorCards
import Derived.Test.YtfbmeclpcgdmhabDoorTie
import Derived.WalkKit
import Derived.ProofKit
import Derived.OpenShut
import Derived.ShutString
import Derived.ChangeOld
import Derived.Below
import Derived.Deep.DeepHandedRow
import Derived.Lib.LaidTab
import Derived.Test.YtfbmeclpcgdmhabDoorQk46
import Derived.Test.YtfbmeclpcgdmhabDoorQk47
import Derived.Test.YtfbmeclpcgdmhabDoorQk48
import Derived.Test.YtfbmeclpcgdmhabDoorQk20
namespace Go.Proofs.YtfbmeclpcgdmhabDoor.argonKeys
open Go.ChangeShapes Go.WideShapes Go.ChangeAt Go.RowKit
set_option linter.unusedVariables false
set_option maxRecDepth 20000
theorem own:ownKnob Tryd.prog.godebug = none:=by kernel_rfl
theorem laidOut:laidOutB Tryd.prog = true:=by kernel_rfl
theorem tabC {W:World} (h:laidMetH Tryd.prog Rows.argonKeysRow.laid W) (h0:1 < W.heap.size):TabC W:=⟨fun j hj=>(tab_two h).1 j hj,h0⟩
theorem tabM {W:World} (h:laidMetH Tryd.prog Rows.argonKeysRow.laid W) (h0:0 < W.heap.size):TabM W:=⟨fun j hj=>(tab_two h).2 j hj,h0⟩
open Go.BigFrame
theorem walk (n:Int) (_:(Lit.int .i64 n).wf = true) (ti me la:Int) (v:Value) (w:World) (hS:SArgW v w) (hC:TabC w) (hM:TabM w):Calls Tryd.prog 4 #[.int .i64 n,.agg (row 3 (pav ti me la)).toArray,v] w fun e w'=>e = .returned (.bool true) ∧ Below w.heap.size w w':=by
  obtain ⟨o,l,k,f,rfl,hb⟩:=hS
  exact keys_any n ti me la o l k w f (fun i hi=>(hb i hi).1) (fun i hi=>Nat.le_trans (hb i hi).2 (by decide)) hC hM
theorem contract (H:Type) (enc:TypeId × Value → H) (W:World) (base:Nat) (args:Array Value) (ds gs:List (DataW H)) (before:List MemPlace)
    (hval0:∀ (j:Nat) t v,Tryd.f4.params[j]? = some t → args[j]? = some v → Value.okWide Tryd.prog W .any base t v)
    (hW:DataW.Whole enc Tryd.prog Tryd.f4.params.toList Rows.argonKeysSpec.vars false W args.toList ds gs before) (hL:laidMetH Tryd.prog Rows.argonKeysRow.laid W) (hsz0:(DataW.weightsEach Tryd.prog (Tryd.f4.params.toList ++ []) (ds ++ gs)).all (· ≤ reachBytes) = true):
    Calls Tryd.prog 4 args W fun e W'=>∃ v,e = .returned v ∧ Rows.argonKeysSpec.post enc Tryd.prog Tryd.f4 false true false false W args v W':=by
  have hval:=hval0
  have hsz:=hsz0
  have hW':=hW
  obtain ⟨p,q,hA0,hV,rfl,hfz,hnd⟩:=hW
  have hA:DataW.TrodAll enc Tryd.prog W 0 (fun _=>true) true Tryd.f4.params.toList args.toList ds p:=hA0
  rw [Tryd.params4] at hA hval hsz
  obtain ⟨v0,vs0,d0,ds0,p0,q0,hargs,rfl,rfl,h0,r0⟩:=trodAll_cons hA
  obtain ⟨v1,vs1,d1,ds1,p1,q1,rfl,rfl,rfl,h1,r1⟩:=trodAll_cons r0
  obtain ⟨v2,vs2,d2,ds2,p2,q2,rfl,rfl,rfl,h2,r2⟩:=trodAll_cons r1
  obtain ⟨rfl,rfl,rfl⟩:=trodAll_nil r2
  obtain rfl:args = #[v0,v1,v2]:=by cases args; simp_all
  obtain ⟨rfl,rfl⟩:=trodVars_none hV
  have h0s:1 < W.heap.size:=by
    have hc:=(tab_two hL).1 0 (by decide)
    rcases Nat.lt_or_ge 1 W.heap.size with h | h
    · exact h
    · exfalso
      have:W.heap[1]? = none:=Array.getElem?_eq_none h
      simp [World.cell?,this] at hc
  have hC:TabC W:=tabC hL h0s
  have hM:TabM W:=tabM hL (by omega)
  have k0:=h0
  have lt0:∀ x ∈ p0,x.block < W.heap.size:=by obtain ⟨m,hm⟩:=k0; exact DataW.trod_lt m _ _ _ hm
  have k1:=h1
  have lt1:∀ x ∈ p1,x.block < W.heap.size:=by obtain ⟨m,hm⟩:=k1; exact DataW.trod_lt m _ _ _ hm
  have k2:=h2
  have lt2:∀ x ∈ p2,x.block < W.heap.size:=by obtain ⟨m,hm⟩:=k2; exact DataW.trod_lt m _ _ _ hm
  obtain ⟨a0,rfl,rfl,rfl,w0⟩:=open_int Tryd.underlying3 (hval 0 3 v0 rfl rfl) h0
  obtain ⟨a1,b1,c1,rfl⟩:=open_pa (hval 1 31 v1 rfl rfl) h1
  have B2:=sargW (hval 2 34 v2 rfl rfl) h2 hsz 2 rfl rfl
  clear hA0 hval0
  refine (walk a0 w0 a1 b1 c1 v2 W B2 hC hM).mono fun e W' ⟨he,bel⟩=>?_
  subst he
  exact ⟨_,rfl,_,_,_,[],_,[],hW',trodAll_mk1 (shut_bool Tryd.underlying4 _),(trodAll_cons_mk (Below.trod laidOut (by kernel_rfl) (of_decide_eq_true (by kernel_rfl)) k0 bel lt0) (trodAll_cons_mk (Below.trod laidOut (by kernel_rfl) (of_decide_eq_true (by kernel_rfl)) k1 bel lt1) (trodAll_cons_mk (Below.trod laidOut (by kernel_rfl) (of_decide_eq_true (by kernel_rfl)) k2 bel lt2) trodAll_mk0))),rfl,bel.frame _,fun h=>by cases h⟩
def wit:Array Value := #[.int .i64 0,.agg #[.int .i64 0,.int .i64 0,.int .i64 0],.agg #[.slice none 0 0,.slice none 0 0,.slice none 0 0,.slice none 0 0]]
def dat {H:Type}:List (DataW H) := [.lit (.int .i64 0),.agg [.lit (.int .i64 0),.lit (.int .i64 0),.lit (.int .i64 0)],.agg [.nil,.nil,.nil,.nil]]
def setTab:Obj → Obj
  | .cells _ t frozen=>.cells (row 32 (iv plF)).toArray t frozen
  | o=>o
theorem laid_met (os:Os):laidMet Tryd.prog Rows.argonKeysRow.laid (({ World.holding Tryd.prog os ⟨#[],#[],[]⟩ with heap:=((World.holding Tryd.prog os ⟨#[],#[],[]⟩).heap.modify 1 setTab).modify 0 setTab }:World).forCall (fun _ _=>0) ⟨#[],wit,[]⟩).memory:=
  laidMet_of_run' 8 (by kernel_rfl) (by kernel_rfl)
theorem reads (os:Os) {H:Type} (enc:TypeId × Value → H):∃ places,DataW.whole enc Tryd.prog (({ World.holding Tryd.prog os ⟨#[],#[],[]⟩ with heap:=((World.holding Tryd.prog os ⟨#[],#[],[]⟩).heap.modify 1 setTab).modify 0 setTab }:World).forCall (fun _ _=>0) ⟨#[],wit,[]⟩).memory Tryd.f4.params.toList Rows.argonKeysSpec.vars false wit.toList 8 = some (dat,[],places):=
  ⟨[],by kernel_rfl⟩
set_option maxRecDepth 100000 in
theorem lifted (os:Os) (started:os.Started) (H:Type) (enc:TypeId × Value → H) (F:Stop.Interp):
    ReturnsInHanded {} Tryd.checked os 4 .any ((OpenSpec.ofChange Rows.argonKeysSpec).preRow enc Tryd.prog Tryd.f4 Rows.argonKeysRow.domain false Rows.argonKeysRow.laid) (((OpenSpec.ofChange Rows.argonKeysSpec).at F).post enc Tryd.prog Tryd.f4 false true false false):=by
  obtain ⟨places,hx⟩:=reads os enc
  refine returnsInHanded_of_row (C:=Tryd.checked) (s:=(OpenSpec.ofChange Rows.argonKeysSpec)) own started (by kernel_rfl) Tryd.func4
    (witness_row_at (enc:=enc) (C:=Tryd.checked) false ({ World.holding Tryd.prog os ⟨#[],#[],[]⟩ with heap:=((World.holding Tryd.prog os ⟨#[],#[],[]⟩).heap.modify 1 setTab).modify 0 setTab }:World) wit rfl (by kernel_rfl) (by kernel_rfl) (by kernel_rfl)
      (OpenSpec.preRow_of_cond 8 hx (by kernel_rfl) (fun k hk=>by cases hk) (by kernel_rfl) (laid_met os))) ?_
  intro W base args ds gs before hval hW _ hcond hsz hL _ _
  exact contract H enc W base args ds gs before hval hW hL hsz
theorem said:Rows.ArgonKeysSaid:=
  OpenClaim.holds_of_cond 4 Tryd.f4 rfl rfl rfl rfl rfl rfl rfl ⟨rfl,rfl,rfl,rfl,rfl⟩ rfl rfl rfl rfl rfl (by kernel_rfl) Tryd.func4 (by kernel_rfl)
    (of_decide_eq_true (by kernel_rfl)) (by unfold Func.isWrapper; first | (rw [if_pos (by decide +kernel)]; kernel_rfl) | (rw [if_neg (by decide +kernel)]; exact ⟨rfl,rfl⟩))
    (fun os started H enc _ F=>by rw [OpenClaim.pre_eq_preRow]; exact lifted os started H enc F)
theorem plain (f : FuncId) (fn : Func) (hf : Tryd.pinned.checked.prog.funcNamed "casket/casketlaw08.ArgonKeys" = some f) (hfn : Tryd.pinned.checked.prog.funcs[f]? = some fn) :
    false = Tryd.pinned.checked.prog.looks [] ∧ ∀ (j:Nat) t,fn.params[j]? = some t → Tryd.pinned.checked.prog.wantsStandIn t = false:=by
  obtain rfl : f = 4 := Option.some.inj ((show Tryd.prog.funcNamed "casket/casketlaw08.ArgonKeys" = some 4 by kernel_rfl).symm.trans hf) |>.symm
  obtain rfl:fn = Tryd.f4:=(Option.some.inj (Tryd.func4.symm.trans hfn)).symm
  refine ⟨by kernel_rfl,fun j t ht=>?_⟩
  rw [Tryd.params4] at ht
  have hm:t ∈ [3,31,34]:=by simpa using Array.mem_of_getElem? ht
  have hall:([3,31,34].all fun u => !Tryd.prog.wantsStandIn u) = true:=by kernel_rfl
  exact (show Tryd.prog.wantsStandIn t = false by simpa using List.all_eq_true.1 hall t hm)
theorem card:Rows.ArgonKeysCardSaid:=
  Claim7.holds_tied_plain_at .later [] _ _ _ _ said (fun _ h=>by cases h) (by kernel_rfl) (fun _ h=>by cases h) argonKeys_row_tie rfl ⟨rfl,rfl⟩ (by kernel_rfl) rfl plain (by kernel_rfl)
end Go.Proofs.YtfbmeclpcgdmhabDoor.argonKeys
namespace Go.Proofs.YtfbmeclpcgdmhabDoor
theorem argonKeys_holds:Rows.ArgonKeysCardSaid:=argonKeys.card
end Go.Proofs.YtfbmeclpcgdmhabDoor
