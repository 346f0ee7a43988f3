/-
  Parts of rows; when arrays of bytes within structs are the same; no word of the program. Single operations whose run is known; blocks made at a function's beginning; what a function answers. No word of the program.
-/
import Derived.Test.YtfbmeclpcgdmhabDoorQk12
import Derived.Test.YtfbmeclpcgdmhabDoorQk25
namespace Go.Proofs.YtfbmeclpcgdmhabDoor
open Go.RowKit Go.BigFrame
section
variable {P:Program}
end
end Go.Proofs.YtfbmeclpcgdmhabDoor
namespace Go.Proofs.YtfbmeclpcgdmhabDoor
open Go.RowKit Go.BigFrame
section
variable {P:Program}
theorem RowAt.sub {b n:Nat} {g:Nat → Value} {w:World} (h:RowAt b n g w) (off m:Nat) (hm:off + m ≤ n) (g':Nat → Value) (hg:∀ j,j < m → g (off + j) = g' j):w.rangeAt b off (row m g'):=fun j v hv=>by
  obtain ⟨hj,rfl⟩:=row_some hv
  rw [h.1 (off + j) (by omega),hg j hj]
theorem xload {o:Oper} {a:Act} {w:World} (t:TypeId) (x:Operand) (ho:o.op = .load t x) (b off n:Nat) (g:Nat → Value) {d:TypeDesc} (hx:a.eval x = .pointer (some ⟨b,off,none⟩)) (h:w.rangeAt b off (row n g))
    (hu:P.underlying t = some d) (hd:d.isRow = true) (hi:(P.info? t).map (·.size) = some n):(execOp a.eval o).run P w = .ok (.value (.agg (row n g).toArray)) w:=by
  unfold execOp
  simp only [ho,hx,Instr.loadAt,Instr.sureAddr,Sem.run_bind,Sem.run_pure,Result.andThen_ok,run_loadVar_mid (P:=P) w b off t (row n g) _ h hu hd (by rw [row_length]; exact hi)]
theorem xstore {o:Oper} {a:Act} {w:World} (t:TypeId) (x y:Operand) (ho:o.op = .store t x y) (b n:Nat) (g g':Nat → Value) (hx:a.eval x = .pointer (some ⟨b,0,none⟩)) (hy:a.eval y = .agg (row n g').toArray) (h:RowAt b n g w)
    (hi:(P.info? t).map (·.size) = some n) (h1:∀ j,j < n → (g' j).oneCell' = true):(execOp a.eval o).run P w = .ok .skip (w.setCells b 0 (row n g')):=by
  unfold execOp
  simp only [ho,hx,hy,Instr.storeAt,Instr.sureAddr,Sem.run_bind,Sem.run_pure,Result.andThen_ok,run_storeVar_mid (P:=P) w b 0 t (row n g').toArray (by rw [row_size]; exact h.there) (by rw [row_size]; exact hi) (row_one h1)]
theorem xalloc {o:Oper} {a:Act} {w:World} (t:TypeId) (Z:Array Value) (ho:o.op = .alloc t) (hz:(zeroValue t).run P w = .ok (.agg Z) w):(execOp a.eval o).run P w = .ok (.value (.pointer (some ⟨w.heap.size,0,none⟩))) (w.alloc (.cells Z t)):=by
  unfold execOp
  simp [ho,Instr.alloc,hz,newVar,newRow,Value.cells]
theorem xbuild {o:Oper} {a:Act} {w:World} (t:TypeId) (l:List (Nat × Operand)) (ho:o.op = .build t l.toArray) (v:Value) (hr:(Instr.build t (l.map fun x=>(x.1,a.eval x.2)).toArray).run P w = .ok v w):(execOp a.eval o).run P w = .ok (.value v) w:=by
  unfold execOp
  rw [ho]
  simp only [List.map_toArray,Sem.run_bind,hr,Result.andThen_ok,Sem.run_pure]
theorem xnot {ops:Array Oper} {rest:List Oper} {o:Oper} {a:Act} {Q:Exit → Act → World → Prop} {w:World} (hw:Region.wanted o (yielded ops a.tmps) = false) (h:wpList P ops Q rest (a.put o.dst undef) w):wpList P ops Q (o :: rest) a w:=by
  unfold wpList
  rw [if_neg (by rw [hw]; simp)]
  exact h
theorem xst {w:World} {ops:Array Oper} {rest:List Oper} {o:Oper} {a:Act} {Q:Exit → Act → World → Prop} (hg:o.guard = none) (w':World) (hr:(execOp a.eval o).run P w = .ok .skip w') (h:wpList P ops Q rest (a.put o.dst undef) w'):wpList P ops Q (o :: rest) a w:=by
  refine wpList_plain hg fun K hK=>?_
  unfold Oper.wp
  rw [hr]
  simp only [Oper.upon]
  exact hK _ _ h
theorem boxes2 (w:World) (n:Nat) (g:Nat → Value) (t:TypeId) (m:Nat) (k:Nat → Value) (u:TypeId):∃ c d w1,Hid (w1 = (w.alloc (.cells (row n g).toArray t)).alloc (.cells (row m k).toArray u)) ∧ Hid (d = w.heap.size + 1) ∧ Hid (c = w.heap.size) ∧ Hid (RowAt c n g w1) ∧ Hid (RowAt d m k w1) ∧ Hid (Ext w w1):=
  ⟨_,_,_,rfl,rfl,rfl,(RowAt.new w n g t).alloc _,by
    have:=RowAt.new (w.alloc (.cells (row n g).toArray t)) m k u
    rwa [show (w.alloc (.cells (row n g).toArray t)).heap.size = w.heap.size + 1 by simp] at this,((Below.refl _ _).alloc (Nat.le_refl _) _).alloc (by simp) _⟩
theorem boxes1 (w:World) (n:Nat) (g:Nat → Value) (t:TypeId):∃ c w1,Hid (w1 = w.alloc (.cells (row n g).toArray t)) ∧ Hid (c = w.heap.size) ∧ Hid (RowAt c n g w1) ∧ Hid (Ext w w1):=
  ⟨_,_,rfl,rfl,RowAt.new w n g t,(Below.refl _ _).alloc (Nat.le_refl _) _⟩
theorem res2 {fn:Func} {t u:Tmp} (h:fn.results = #[.tmp t,.tmp u]) (tmps:Array Value) (P:Program) (w:World):(results fn tmps).run P w = .ok (.tuple #[tmps.getD t undef,tmps.getD u undef]) w:=by
  simp [results,h]
end
end Go.Proofs.YtfbmeclpcgdmhabDoor
