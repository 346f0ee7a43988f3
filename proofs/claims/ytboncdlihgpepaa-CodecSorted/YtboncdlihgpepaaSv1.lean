/-
  Two Sorted gone over: what stands, what is left of loops over functions.
-/
import Derived.Test.YtboncdlihgpepaaSo9
import Derived.Test.YtboncdlihgpepaaRh
namespace Go.Proofs.Ytboncdlihgpepaa
open Go.RowKit Go.BigFrame Go.Maps Go.ChangeMaps Go.MapKept
set_option linter.unusedVariables false
open Go.Shelf Go.Lib Go.Sort
theorem neq90 (p q : KV) (w : World) : (binOp .neq 90 (.agg (row 2 (pV [p])).toArray) (.agg #[.int .i64 q.1, .string q.2])).run Try.prog w = .ok (.bool (!(decide (p.1 = q.1) && decide (p.2.toList = q.2.toList)))) w := by
  show (binOp .neq 90 (.agg #[.int .i64 p.1, .string p.2]) (.agg #[.int .i64 q.1, .string q.2])).run Try.prog w = _
  simp [go_sem]
  by_cases h1 : p.1 = q.1 <;> by_cases h2 : p.2.toList = q.2.toList <;> simp [h1, h2]
theorem fnil (b : Nat) (w : World) : (binOp .eql 65 (.func (.func 48) #[] #[.pointer (some ⟨b, 0, none⟩)]) .nilFunc).run Try.prog w = .ok (.bool false) w := by kernel_rfl
theorem all_box (v : Option Addr) (w : World) : Calls Try.prog 32 #[.pointer v] w fun e w' => ∃ bx, e = .returned (.func (.func 48) #[] #[.pointer (some ⟨bx, 0, none⟩)]) ∧ Hid (RowAt bx 1 (fun _ => .pointer v) w') ∧ Ext w w' :=
  (all_any v w).mono fun e w' ⟨h1, h2⟩ => ⟨_, h1, by rw [h2]; exact row1_new w (.pointer v) 58, by rw [h2]; exact (Below.refl _ _).alloc (Nat.le_refl _) _⟩
/-- how the look at two Sorted stands on its way -/
structure OvI (w : World) (xb : Nat) (most rd : Int) (c4 c5 c6 c7 c8 : Nat) (Ds : List Nat) (m : Nat) (W : World) : Prop where
  ext : Ext w W
  r4 : RowAt c4 1 (fun _ => .pointer (some ⟨xb, 0, none⟩)) W
  r5 : RowAt c5 1 (fun _ => .int .i64 most) W
  r6 : RowAt c6 1 (fun _ => .bool false) W
  r7 : RowAt c7 1 (fun _ => .int .i64 rd) W
  r8 : RowAt c8 1 (fun _ => .int .i64 (m : Int)) W
  l8 : w.heap.size ≤ c8
  ne : c8 ≠ c4 ∧ c8 ≠ c5 ∧ c8 ≠ c6 ∧ c8 ≠ c7
  mks : ∀ D ∈ Ds, W.heap[D]? = some (.deferred (some []))
  ml : ∀ D ∈ Ds, w.heap.size ≤ D
  nd : Ds.Nodup
section
variable {w W Y : World} {xb : Nat} {most rd : Int} {c4 c5 c6 c7 c8 : Nat} {Ds : List Nat} {m : Nat}
theorem OvI.carry (h : OvI w xb most rd c4 c5 c6 c7 c8 Ds m W) (k : Ext W Y) : OvI w xb most rd c4 c5 c6 c7 c8 Ds m Y :=
  ⟨Ext.trans h.ext k, h.r4.carry k, h.r5.carry k, h.r6.carry k, h.r7.carry k, h.r8.carry k, h.l8, h.ne, fun D hD => (Below.block k D (Array.getElem?_eq_some_iff.1 (h.mks D hD)).1).trans (h.mks D hD), h.ml, h.nd⟩
theorem OvI.own {B : Nat} {r : Option Nat} (h : OvI w xb most rd c4 c5 c6 c7 c8 Ds m W) (hB : ∀ D ∈ Ds, D < B) (hw : w.heap.size ≤ B) (hg : W.grownBy Y r) (hr : ∀ k, r = some k → B ≤ k ∧ ∃ o : Obj, W.heap[k]? = some o ∧ o.isCells = false) : OvI w xb most rd c4 c5 c6 c7 c8 Ds m Y :=
  ⟨Below.grown h.ext hg (Below.size h.ext) fun k e => Nat.le_trans hw (hr k e).1, h.r4.own hg fun k e => (hr k e).2, h.r5.own hg fun k e => (hr k e).2, h.r6.own hg fun k e => (hr k e).2, h.r7.own hg fun k e => (hr k e).2, h.r8.own hg fun k e => (hr k e).2, h.l8, h.ne,
    fun D hD => (hg.block D (Array.getElem?_eq_some_iff.1 (h.mks D hD)).1 fun e => by have := (hr D e.symm).1; have := hB D hD; omega).trans (h.mks D hD), h.ml, h.nd⟩
theorem RowAt.ne_mark {b n D : Nat} {g : Nat → Value} {x : Option (List Deferred)} (h : RowAt b n g W) (hn : 0 < n) (hD : W.heap[D]? = some (.deferred x)) : D ≠ b := fun e => by
  subst e
  have h1 := h.1 0 hn
  unfold World.cell? at h1
  rw [hD] at h1
  cases h1
theorem OvI.set8 (h : OvI w xb most rd c4 c5 c6 c7 c8 Ds m W) : OvI w xb most rd c4 c5 c6 c7 c8 Ds (m + 1) (W.setCell ⟨c8, 0, none⟩ (.int .i64 ((m : Int) + 1))) := by
  obtain ⟨n4, n5, n6, n7⟩ := h.ne
  refine ⟨Below.setCell (p := ⟨c8, 0, none⟩) h.ext h.l8 _, h.r4.other ⟨c8, 0, none⟩ _ n4, h.r5.other ⟨c8, 0, none⟩ _ n5, h.r6.other ⟨c8, 0, none⟩ _ n6, h.r7.other ⟨c8, 0, none⟩ _ n7, (h.r8.set 0 _).congr fun j hj => by rw [if_pos (by omega)]; rfl, h.l8, h.ne, fun D hD => ?_, h.ml, h.nd⟩
  exact (Below.heap_setCell W ⟨c8, 0, none⟩ _ D (h.r8.ne_mark (by decide) (h.mks D hD))).trans (h.mks D hD)
theorem OvI.mark {D : Nat} (h : OvI w xb most rd c4 c5 c6 c7 c8 Ds m W) (hD : ∀ D' ∈ Ds, D' < D) (hw : w.heap.size ≤ D) (hK : W.heap[D]? = some (.deferred (some []))) : OvI w xb most rd c4 c5 c6 c7 c8 (D :: Ds) m W :=
  ⟨h.ext, h.r4, h.r5, h.r6, h.r7, h.r8, h.l8, h.ne, fun D' h' => by
    rcases List.mem_cons.1 h' with rfl | h'
    · exact hK
    · exact h.mks D' h', fun D' h' => by
    rcases List.mem_cons.1 h' with rfl | h'
    · exact hw
    · exact h.ml D' h', List.nodup_cons.2 ⟨fun h' => by have := hD D h'; omega, h.nd⟩⟩
theorem OvI.lts (h : OvI w xb most rd c4 c5 c6 c7 c8 Ds m W) : ∀ D ∈ Ds, D < W.heap.size := fun D hD => (Array.getElem?_eq_some_iff.1 (h.mks D hD)).1
/-- the marks that loops have left, taken away -/
theorem leaves_marks {fn : Func} {n : Nat} {tmps : Array Value} {R : Ending → World → Prop} {c : Nat} {v : Value} (hres : ∀ X, RowAt c 1 (fun _ => v) X → (results fn tmps).run Try.prog X = .ok v X) (hR : ∀ X, Ext w X → R (.returned v) X) : ∀ (Ds : List Nat) (W : World), (∀ D ∈ Ds, W.heap[D]? = some (.deferred (some []))) → (∀ D ∈ Ds, w.heap.size ≤ D) → Ds.Nodup → Ext w W → RowAt c 1 (fun _ => v) W →
    LeavesInM Fence.wide n Try.prog fn tmps R (Ds.map fun D => { target := .collected D, args := #[] }) .returning W
  | [], W, _, _, _, hE, hc => ⟨v, hres W hc, hR W hE⟩
  | D :: Ds, W, hK, hl, hnd, hE, hc => by
    obtain ⟨n1, n2⟩ := List.nodup_cons.1 hnd
    have hD := hK D (List.mem_cons_self ..)
    refine ⟨by simp, .inl ⟨D, W.putObj D (.deferred none), rfl, run_takeDeferred hD, ?_⟩⟩
    refine leaves_marks hres hR Ds _ (fun D' h' => ?_) (fun D' h' => hl D' (List.mem_cons_of_mem _ h')) n2 (ext_put hE (hl D (List.mem_cons_self ..)) hD) (hc.put hD rfl)
    have e : D' ≠ D := fun e => n1 (e ▸ h')
    exact (World.putObj_heap_other e).trans (hK D' (List.mem_cons_of_mem _ h'))
end
end Go.Proofs.Ytboncdlihgpepaa
