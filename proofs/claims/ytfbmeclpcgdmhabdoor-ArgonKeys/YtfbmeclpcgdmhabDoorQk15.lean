/-
  A region that draws its order: pure operations taken first, then quiet ones, one block made, late ones behind: one walk serves every order. A stretch of a region that draws its order: operations that only read, makers of memory, operations that rest on what these made, late ones; all that is not of the stretch waits for it. One walk serves every order; then the rest of the region.
-/
import Derived.Test.YtfbmeclpcgdmhabDoorQk14
namespace Go.Proofs.YtfbmeclpcgdmhabDoor
open Go.RowKit
section
variable {P:Program} {ops:Array Oper} {W:World} {Q:Exit → Act → World → Prop}
end
end Go.Proofs.YtfbmeclpcgdmhabDoor
namespace Go.Proofs.YtfbmeclpcgdmhabDoor
open Go.RowKit
section
variable {P:Program} {ops:Array Oper} {W:World} {Q:Exit → Act → World → Prop} {sp:Nat → Sp}
def StrongT (P:Program) (ops:Array Oper) (W:World) (C:World → Prop) (o:Oper) (v:Value) (a:Act):Prop:=
  (Region.wanted o (yielded ops a.tmps) = true ∧ ∀ w,Ext W w → C w → strongUpon P w v ((execOp a.eval o).run P w)) ∨ (Region.wanted o (yielded ops a.tmps) = false ∧ v = undef)
theorem StrongT.put {C:World → Prop} {o:Oper} {v u:Value} {a:Act} {d:Option Tmp} (hs:∀ cs b,o.op ≠ .select cs b) (h:∀ t,d = some t → t ∉ o.looksAt ops):StrongT P ops W C o v (a.put d u) ↔ StrongT P ops W C o v a:=by
  unfold StrongT
  rw [execOp_put (ops:=ops) o hs a d u h,wanted_put o a d u h]
theorem StrongT.mono {C C':World → Prop} {o:Oper} {v:Value} {a:Act} (h:∀ w,C' w → C w) (k:StrongT P ops W C o v a):StrongT P ops W C' o v a:=
  k.imp (fun h1=>⟨h1.1,fun w hw hc=>h1.2 w hw (h w hc)⟩) id
theorem StrongT.call {C:World → Prop} {o:Oper} {v:Value} {a:Act} {f:FuncId} {args:Array Value} (hw:Region.wanted o (yielded ops a.tmps) = true) (hr:∀ w,(execOp a.eval o).run P w = .ok (.enter f args) w) (hc:∀ w,Ext W w → C w → Calls P f args w fun e w'=>e = .returned v ∧ Below w.heap.size w w'):StrongT P ops W C o v a:=
  .inl ⟨hw,fun w h hC=>by rw [hr w]; exact ⟨rfl,hc w h hC⟩⟩
theorem StrongT.run {C:World → Prop} {o:Oper} {v:Value} {a:Act} (hw:Region.wanted o (yielded ops a.tmps) = true) (hr:∀ w,Ext W w → C w → (execOp a.eval o).run P w = .ok (.value v) w):StrongT P ops W C o v a:=
  .inl ⟨hw,fun w h hC=>by rw [hr w h hC]; exact ⟨rfl,rfl⟩⟩
theorem StrongT.wpOp {C:World → Prop} {i:Nat} {o:Oper} {v:Value} {a:Act} {w:World} {K:Act → World → Prop} (hi:ops[i]? = some o) (hw:Ext W w) (hC:C w) (hy:StrongT P ops W C o v a) (hK:∀ w',Ext w w' → K (a.put o.dst v) w'):wpOp P ops Q i K a w:=by
  unfold Go.wpOp
  rw [hi]
  rcases hy with ⟨h1,h2⟩ | ⟨h1,rfl⟩
  · simp only [h1,if_true]
    refine .inl ?_
    have h3:=h2 w hw hC
    unfold Oper.wp
    generalize (execOp a.eval o).run P w = r at *
    cases r with
    | ok n w'=>
      cases n <;> simp only [strongUpon] at h3 <;> simp only [Oper.upon]
      case value u=>
        obtain ⟨rfl,rfl⟩:=h3
        exact hK _ (Ext.refl _)
      case skip=>
        obtain ⟨rfl,rfl⟩:=h3
        exact hK _ (Ext.refl _)
      case enter f args=>
        obtain ⟨rfl,hc⟩:=h3
        exact hc.mono fun e w'' ⟨he,hw''⟩=>by subst he; exact hK _ hw''
    | halt x w'=>simp only [strongUpon] at h3
  · simp only [h1,Bool.false_eq_true,if_false]
    exact hK _ (Ext.refl _)
def wpT (P:Program) (ops:Array Oper) (W:World) (C:World → Prop) (vs:Nat → Value) (E:Act → Prop):List Nat → Act → Prop
  | [],a=>E a
  | i :: r,a=>∃ o,ops[i]? = some o ∧ StrongT P ops W C o (vs i) a ∧ wpT P ops W C vs E r (a.put o.dst (vs i))
structure SegAt (P:Program) (ops:Array Oper) (W:World) (Q:Exit → Act → World → Prop) (sp:Nat → Sp) (vs:Nat → Value) (L0:Array Bool) (ql ml tl ll:List Nat) (lops:List Oper) (K:Act → World → Prop) (L:Array Bool) (A:Act) (w:World):Prop where
  size:L.size = ops.size
  closed:Closed ops L
  way:((∀ k,k ∉ ql ++ ml ++ tl ++ ll → L.getD k false = L0.getD k false) ∧ (∀ i ∈ ll,L.getD i false = false) ∧ Ext W w ∧ ∃ T,HoldsN sp T w ∧ wpS P ops W (fun A'=>wpN P ops W sp (fun A'' T'=>wpT P ops W (HoldsN sp T') vs (fun A3=>∀ w',Ext W w' → HoldsN sp T' w' → wpList P ops (Exit.then K Q) lops A3 w') (lf L tl) A'') (lf L ml) A' T) (lf L ql) A) ∨
    ((∀ k,k ∉ ql ++ ml ++ tl ++ ll → L.getD k false = L0.getD k false) ∧ (∀ k ∈ ql ++ ml ++ tl,L.getD k false = true) ∧ ∃ l1 l2 lo2,ll = l1 ++ l2 ∧ l2 ≠ [] ∧ (∀ k ∈ l1,L.getD k false = true) ∧ (∀ k ∈ l2,L.getD k false = false) ∧ l2.map (ops[·]?) = lo2.map some ∧ wpList P ops (Exit.then K Q) lo2 A w) ∨
    (∃ f,L.toList.count false ≤ f ∧ wpAny P .any ops Q f L A w)
theorem GenY.make {o:Oper} {s:Sp} {a:Act} (hw:Region.wanted o (yielded ops a.tmps) = true) (hr:∀ X,Ext W X → ∃ ob,(execOp a.eval o).run P X = .ok (.value (s.V X.heap.size)) (X.alloc ob) ∧ s.S X.heap.size (X.alloc ob)):GenY P ops W o s a:=
  ⟨hw,fun X hX=>by
    obtain ⟨ob,h1,h2⟩:=hr X hX
    rw [h1]
    exact ⟨X.heap.size,Nat.le_refl _,by simp,rfl,h2,(Below.refl _ _).alloc (Nat.le_refl _) _⟩⟩
end
end Go.Proofs.YtfbmeclpcgdmhabDoor
