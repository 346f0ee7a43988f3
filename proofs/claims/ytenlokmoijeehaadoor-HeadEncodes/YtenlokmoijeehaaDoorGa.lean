/-
  Rows of cells in a block of their own, told by a function on places: plain facts on worlds, no word of the program. A region that draws its order, by an invariant over the operations that are done: each operation is looked at once, whatever the order. A region that draws its order, whose operations only read and whose calls leave all that matters as it is: one walk in the order of the text serves every order. A law for regions that draw their order: operations that only read, calls that leave all old memory as it is, blocks that are made, and late operations behind them all. One walk in the order of the text serves every order. A law for regions that draw their order, in which one block is made: operations that only read and calls stand anywhere, the block's value and content hang on the frame, the late operations behind them all. Words of 32 bits and bytes, as the walk spells them; what the functions that turn words answer.
-/
import Derived.WalkKit
import Derived.Deep.MidRow
import Derived.Below
import Derived.Orders
import Derived.BigQuiet
import Derived.Test.YtenlokmoijeehaaDoorChecked
import Derived.WalkSpells
import Derived.WalkLawsBesides
import Derived.LoopTactic
import Derived.Laws.BitsAllLaws
import Derived.Laws.Bits64b
namespace Go.Proofs.YtenlokmoijeehaaDoor
open Go.RowKit
/-- n values, the one at place j is g j -/
def row (n : Nat) (g : Nat → Value) : List Value := (List.range n).map g
theorem row_length (n : Nat) (g : Nat → Value) : (row n g).length = n := by simp [row]
theorem row_get (n : Nat) (g : Nat → Value) (j : Nat) (h : j < n) : (row n g)[j]? = some (g j) := by simp [row, h]
theorem row_some {n : Nat} {g : Nat → Value} {j : Nat} {v : Value} (h : (row n g)[j]? = some v) : j < n ∧ v = g j := by
  by_cases hj : j < n
  · rw [row_get n g j hj] at h; exact ⟨hj, (Option.some.inj h).symm⟩
  · rw [List.getElem?_eq_none (by rw [row_length]; omega)] at h; cases h
theorem row_ext {n : Nat} {g g' : Nat → Value} (h : ∀ j, j < n → g j = g' j) : row n g = row n g' := by
  apply List.map_congr_left
  intro j hj
  exact h j (by simpa using hj)
theorem row_one {n : Nat} {g : Nat → Value} (h : ∀ j, j < n → (g j).oneCell' = true) : (row n g).toArray.all (·.oneCell') = true :=
  all_oneCell_toArray (fun v hv => by
    obtain ⟨j, hj, rfl⟩ := List.mem_map.1 hv
    exact h j (by simpa using hj))
theorem row_size (n : Nat) (g : Nat → Value) : (row n g).toArray.size = n := by simp [row_length]
/-- block b holds them, from its head on, and they may be written -/
def RowAt (b n : Nat) (g : Nat → Value) (w : World) : Prop :=
  (∀ j, j < n → w.cell? ⟨b, j, none⟩ = some (g j)) ∧ (∀ j, j < n → w.frozen? ⟨b, j, none⟩ = false) ∧ b < w.heap.size
theorem RowAt.range {b n : Nat} {g : Nat → Value} {w : World} (h : RowAt b n g w) : w.rangeAt b 0 (row n g) := fun j v hv => by
  obtain ⟨hj, rfl⟩ := row_some hv
  simpa using h.1 j hj
theorem RowAt.there {b n : Nat} {g : Nat → Value} {w : World} (h : RowAt b n g w) : w.there b 0 n := fun j hj => by
  have h1 := h.1 j hj
  have h2 := h.2.1 j hj
  simp [h1, h2]
theorem RowAt.carry {b n : Nat} {g : Nat → Value} {X w' : World} (h : RowAt b n g X) (hB : Below X.heap.size X w') : RowAt b n g w' :=
  ⟨fun j hj => (hB.cell (p := ⟨b, j, none⟩) h.2.2).trans (h.1 j hj), fun j hj => (hB.frozen (p := ⟨b, j, none⟩) h.2.2).trans (h.2.1 j hj), Nat.lt_of_lt_of_le h.2.2 hB.size⟩
theorem RowAt.drew {b n : Nat} {g : Nat → Value} {w : World} (h : RowAt b n g w) : RowAt b n g w.drew := h
theorem RowAt.other {b n : Nat} {g : Nat → Value} {w : World} (h : RowAt b n g w) (p : Addr) (v : Value) (hp : p.block ≠ b) : RowAt b n g (w.setCell p v) :=
  ⟨fun j hj => by rw [World.cell?_setCell_other _ _ _ _ (fun e => hp (by rw [e]))]; exact h.1 j hj, fun j hj => by rw [World.frozen?_setCell]; exact h.2.1 j hj, by rw [World.size_setCell]; exact h.2.2⟩
theorem RowAt.set {b n : Nat} {g : Nat → Value} {w : World} (h : RowAt b n g w) (i : Nat) (v : Value) : RowAt b n (fun j => if j = i then v else g j) (w.setCell ⟨b, i, none⟩ v) :=
  ⟨fun j hj => by
    by_cases e : j = i
    · subst e
      rw [World.cell?_setCell_same _ _ _ (h.1 j hj)]; simp
    · rw [World.cell?_setCell_other _ _ _ _ (by intro h2; injection h2 with _ h3 _; exact e h3.symm), h.1 j hj]; simp [e],
   fun j hj => by rw [World.frozen?_setCell]; exact h.2.1 j hj, by rw [World.size_setCell]; exact h.2.2⟩
theorem RowAt.congr {b n : Nat} {g g' : Nat → Value} {w : World} (h : RowAt b n g w) (e : ∀ j, j < n → g j = g' j) : RowAt b n g' w :=
  ⟨fun j hj => by rw [← e j hj]; exact h.1 j hj, h.2⟩
theorem RowAt.alloc {b n : Nat} {g : Nat → Value} {w : World} (h : RowAt b n g w) (o : Obj) : RowAt b n g (w.alloc o) :=
  ⟨fun j hj => by rw [World.cell?_alloc_lt _ _ _ (by exact h.2.2)]; exact h.1 j hj, fun j hj => by
    have := (Below.refl w.heap.size w).alloc (Nat.le_refl _) o
    rw [this.frozen (p := ⟨b, j, none⟩) h.2.2]; exact h.2.1 j hj, by simp; have := h.2.2; omega⟩
theorem RowAt.new (w : World) (n : Nat) (g : Nat → Value) (t : TypeId) : RowAt w.heap.size n g (w.alloc (.cells (row n g).toArray t)) :=
  ⟨fun j hj => by rw [World.cell?_alloc_new]; simp [row_get n g j hj], fun j _ => by simp [go_sem], by simp⟩
theorem RowAt.newOf (w : World) (n : Nat) (g : Nat → Value) (t : TypeId) (C : Array Value) (hC : ∀ j, j < n → C[j]? = some (g j)) : RowAt w.heap.size n g (w.alloc (.cells C t)) :=
  ⟨fun j hj => by rw [World.cell?_alloc_new]; exact hC j hj, fun j _ => by simp [go_sem], by simp⟩
theorem size_setCells (b : Nat) : ∀ (vs : List Value) (o : Nat) (w : World), (w.setCells b o vs).heap.size = w.heap.size
  | [], _, _ => rfl
  | v :: r, o, w => by rw [World.setCells, size_setCells b r (o + 1)]; simp
theorem below_setCells {B : Nat} {w : World} (b : Nat) (hb : B ≤ b) : ∀ (vs : List Value) (o : Nat) (X : World), Below B w X → Below B w (X.setCells b o vs)
  | [], _, _, h => h
  | v :: r, o, X, h => by rw [World.setCells]; exact below_setCells b hb r (o + 1) _ (h.setCell hb _)
theorem RowAt.cellsOther {b n c : Nat} {g : Nat → Value} {w : World} (h : RowAt b n g w) (hc : c ≠ b) (vs : List Value) (o : Nat) : RowAt b n g (w.setCells c o vs) :=
  ⟨fun j hj => by rw [World.cell?_setCells_out c vs o w ⟨b, j, none⟩ (fun e => absurd e.symm hc)]; exact h.1 j hj, fun j hj => by rw [World.frozen?_setCells]; exact h.2.1 j hj, by rw [size_setCells]; exact h.2.2⟩
theorem RowAt.cells {b n : Nat} {g g' : Nat → Value} {w : World} (h : RowAt b n g w) : RowAt b n g' (w.setCells b 0 (row n g')) := by
  have ht : w.there b 0 (row n g').length := by rw [row_length]; exact h.there
  refine ⟨fun j hj => ?_, fun j hj => ?_, ?_⟩
  · have := World.rangeAt_setCells_same w b 0 (row n g') ht j (g' j) (row_get n g' j hj)
    simpa using this
  · rw [World.frozen?_setCells]; exact h.2.1 j hj
  · rw [size_setCells]; exact h.2.2
theorem run_storeRow {P : Program} {b n : Nat} {g : Nat → Value} {w : World} (h : RowAt b n g w) (g' : Nat → Value) (h1 : ∀ j, j < n → (g' j).oneCell' = true) :
    (storeCells ⟨b, 0, none⟩ (row n g')).run P w = .ok () (w.setCells b 0 (row n g')) := by
  have h2 := h.there
  exact run_storeCells_cells (P := P) b 0 (row n g') 0 w (fun j hj => by rw [row_length] at hj; simpa using (h2 j hj).1) (fun j hj => by rw [row_length] at hj; simpa using (h2 j hj).2)
    (fun v hv => by
      obtain ⟨j, hj, rfl⟩ := List.mem_map.1 hv
      exact h1 j (by simpa using hj))
theorem run_loadRow {P : Program} {b n : Nat} {g : Nat → Value} {w : World} (h : RowAt b n g w) :
    (loadCells ⟨b, 0, none⟩ n).run P w = .ok (row n g).toArray w := by
  have := run_loadCells_list (P := P) w ⟨b, 0, none⟩ (row n g) (fun j v hv => by rw [Addr.add_mid]; exact h.range j v hv)
  rwa [row_length] at this
end Go.Proofs.YtenlokmoijeehaaDoor
namespace Go.Proofs.YtenlokmoijeehaaDoor
open Go.RowKit
section
variable {P : Program} {md : Region.Mode} {ops : Array Oper} {Q : Exit → Act → World → Prop}
theorem wpOp_plain {i : Nat} {o : Oper} {K : Act → World → Prop} {a : Act} {w : World} (ho : ops[i]? = some o) (hg : o.guard = none) (h : o.wp P a w K Q) : wpOp P ops Q i K a w := by
  unfold wpOp
  rw [ho]
  have : Region.wanted o (yielded ops a.tmps) = true := by unfold Region.wanted; rw [hg]
  simp only [this, if_true]
  exact .inl h
theorem count_set_lt (l : List Bool) (i : Nat) (h : l[i]? = some false) : (l.set i true).count false < l.count false := by
  induction l generalizing i with
  | nil => simp at h
  | cons b l ih =>
    cases i with
    | zero =>
      simp at h
      subst h
      simp
    | succ i =>
      simp at h
      have := ih i h
      simp only [List.set_cons_succ, List.count_cons]
      omega
theorem wpAny_inv (I : Array Bool → Act → World → Prop)
    (hstep : ∀ listed a w i o, I listed a w → ops[i]? = some o → listed.getD i true = false → (∀ e ∈ o.after, Region.binds md e = true → listed.getD e.on false = true) → wpOp P ops Q i (I (listed.setIfInBounds i true)) a w)
    (hend : ∀ listed a w, I listed a w → Region.ready md ops listed = [] → Q .normal a w) :
    ∀ fuel listed a w, listed.toList.count false ≤ fuel → I listed a w → wpAny P md ops Q fuel listed a w := by
  intro fuel
  induction fuel with
  | zero =>
    intro listed a w hc hI
    have hr : Region.ready md ops listed = [] := by
      apply List.eq_nil_iff_forall_not_mem.2
      intro j hj
      obtain ⟨h0, _⟩ := mem_ready.1 hj
      have h1 : listed.toList[j]? = some false := by
        rw [Array.getElem?_toList]
        unfold Array.getD at h0
        split at h0
        · rename_i hlt
          rw [Array.getElem?_eq_getElem hlt]; exact congrArg some h0
        · cases h0
      have h2 := count_set_lt _ _ h1
      omega
    exact ⟨hr, hend _ _ _ hI hr⟩
  | succ fuel ih =>
    intro listed a w hc hI
    refine ⟨hend _ _ _ hI, fun i hi => ?_⟩
    obtain ⟨h0, o, ho, hall⟩ := mem_ready.1 hi
    have h1 : listed.toList[i]? = some false := by
      rw [Array.getElem?_toList]
      unfold Array.getD at h0
      split at h0
      · rename_i hlt
        rw [Array.getElem?_eq_getElem hlt]; exact congrArg some h0
      · cases h0
    have h2 := count_set_lt _ _ h1
    refine wpOp_mono (fun a' w' h => ih _ a' w' ?_ h) (hstep listed a w i o hI ho h0 hall)
    rw [Array.toList_setIfInBounds]
    omega
theorem wp_region_inv {id : Nat} {a : Act} {w : World} (I : Array Bool → Act → World → Prop) (hm : P.follows .mixedOrders = true) (h0 : I (Array.replicate ops.size false) a w.drew)
    (hstep : ∀ listed a w i o, I listed a w → ops[i]? = some o → listed.getD i true = false → (∀ e ∈ o.after, Region.binds .any e = true → listed.getD e.on false = true) → wpOp P ops Q i (I (listed.setIfInBounds i true)) a w)
    (hend : ∀ listed a w, I listed a w → Region.ready .any ops listed = [] → Q .normal a w) : (Code.region id ops true).wp P Q a w :=
  wp_region_any hm (wpAny_inv I hstep hend _ _ _ _ (by simp) h0)
end
end Go.Proofs.YtenlokmoijeehaaDoor
namespace Go.Proofs.YtenlokmoijeehaaDoor
open Go.RowKit
theorem hideit {p : Prop} (h : p) : Hid p := h
theorem bcell {W w1 : World} (hb : Below W.heap.size W w1) : (∀ b o, b < W.heap.size → w1.cell? ⟨b, o, none⟩ = W.cell? ⟨b, o, none⟩) ∧ (∀ b o, b < W.heap.size → w1.frozen? ⟨b, o, none⟩ = W.frozen? ⟨b, o, none⟩) :=
  ⟨fun b o h => hb.cell (p := ⟨b, o, none⟩) h, fun b o h => hb.frozen (p := ⟨b, o, none⟩) h⟩
structure Kept (Ok : World → Prop) where
  w : World
  ok : Ok w
theorem wp_region_kept {P : Program} {id : Nat} {Q : Exit → Act → World → Prop} {a : Act} {w : World} {l : List Oper} {Ok : World → Prop} (hm : P.follows .mixedOrders = true) (hB : Region.lexB .any l.toArray = true) (h0 : Ok w.drew)
    (h : wpQuiet P l.toArray (fun w' => ∃ k : Kept Ok, w' = k.w) (fun a' => ∀ w', (∃ k : Kept Ok, w' = k.w) → Q .normal a' w') l a) : (Code.region id l.toArray true).wp P Q a w :=
  wp_region_quiet (C := fun w' => ∃ k : Kept Ok, w' = k.w) hm hB ⟨⟨_, h0⟩, rfl⟩ (by simpa using h)
theorem ret_int {k : IntKind} {a b : Int} (h : a = b) : Ending.returned (.int k a) = .returned (.int k b) := by rw [h]
theorem ret_bool {a b : Bool} (h : a = b) : Ending.returned (.bool a) = .returned (.bool b) := by rw [h]
/-- a block of cells is what the function answers -/
theorem ret_row {P : Program} {F : Func} {tmps : Array Value} {k : Nat} {t : TypeId} {b n : Nat} {g : Nat → Value} {X : World} {d : TypeDesc} (hF : F.results = #[.cell k t]) (ht : tmps.getD k undef = .pointer (some ⟨b, 0, none⟩)) (h : RowAt b n g X)
    (hu : P.underlying t = some d) (hd : d.isRow = true) (hi : (P.info? t).map (·.size) = some n) : Sem.run P (results F tmps) X = .ok (.agg (row n g).toArray) X := by
  have hl := run_loadVar_mid (P := P) X b 0 t (row n g) d h.range hu hd (by rw [row_length]; exact hi)
  unfold results
  rw [hF]
  simp only [List.mapM_toArray, List.mapM_cons, List.mapM_nil, ht]
  simp [asAddr, hl]
end Go.Proofs.YtenlokmoijeehaaDoor
namespace Go.Proofs.YtenlokmoijeehaaDoor
open Go.RowKit
/-- a world behind another one: all that lay in the first one stands -/
def Ext (W w : World) : Prop := Below W.heap.size W w
theorem Ext.refl (W : World) : Ext W W := Below.refl _ _
theorem Ext.trans {a b c : World} (h : Ext a b) (k : Ext b c) : Ext a c := Below.trans h (Below.mono k (Below.size h))
def strongUpon (P : Program) (w : World) (v : Value) : Result Next → Prop
  | .ok (.value u) w' => w' = w ∧ u = v
  | .ok .skip w' => w' = w ∧ v = undef
  | .ok (.enter f args) w' => w' = w ∧ Calls P f args w fun e w'' => e = .returned v ∧ Ext w w''
  | _ => False
/-- in a frame, in every world behind W, the operation yields v and leaves a world behind the one that it got -/
def StrongY (P : Program) (ops : Array Oper) (W : World) (o : Oper) (v : Value) (a : Act) : Prop :=
  (Region.wanted o (yielded ops a.tmps) = true ∧ ∀ w, Ext W w → strongUpon P w v ((execOp a.eval o).run P w)) ∨ (Region.wanted o (yielded ops a.tmps) = false ∧ v = undef)
/-- the operation makes a block of n cells, told by g -/
def Makes (P : Program) (o : Oper) (n : Nat) (g : Nat → Value) : Prop :=
  o.guard = none ∧ ∀ ρ w, ∃ C t, (execOp ρ o).run P w = .ok (.value (.pointer (some ⟨w.heap.size, 0, none⟩))) (w.alloc (.cells C t)) ∧ ∀ j, j < n → C[j]? = some (g j)
abbrev Made := Nat × Nat × (Nat → Value)
def Holds (T : List Made) (w : World) : Prop := ∀ y ∈ T, RowAt y.1 y.2.1 y.2.2 w
theorem Holds.ext {T : List Made} {w w' : World} (h : Holds T w) (k : Ext w w') : Holds T w' := fun y hy => (h y hy).carry k
section
variable {P : Program} {ops : Array Oper} {W : World} {Q : Exit → Act → World → Prop}
theorem StrongY.put {o : Oper} {v u : Value} {a : Act} {d : Option Tmp} (hs : ∀ cs b, o.op ≠ .select cs b) (h : ∀ t, d = some t → t ∉ o.looksAt ops) : StrongY P ops W o v (a.put d u) ↔ StrongY P ops W o v a := by
  unfold StrongY
  rw [execOp_put (ops := ops) o hs a d u h, wanted_put o a d u h]
theorem StrongY.wpOp {i : Nat} {o : Oper} {v : Value} {a : Act} {w : World} {K : Act → World → Prop} (hi : ops[i]? = some o) (hw : Ext W w) (hy : StrongY P ops W o v a) (hK : ∀ w', Ext w w' → K (a.put o.dst v) w') : wpOp P ops Q i K a w := by
  unfold Go.wpOp
  rw [hi]
  rcases hy with ⟨h1, h2⟩ | ⟨h1, rfl⟩
  · simp only [h1, if_true]
    refine .inl ?_
    have h3 := h2 w hw
    unfold Oper.wp
    generalize (execOp a.eval o).run P w = r at *
    cases r with
    | ok n w' =>
      cases n <;> simp only [strongUpon] at h3 <;> simp only [Oper.upon]
      case value u =>
        obtain ⟨rfl, rfl⟩ := h3
        exact hK _ (Ext.refl _)
      case skip =>
        obtain ⟨rfl, rfl⟩ := h3
        exact hK _ (Ext.refl _)
      case enter f args =>
        obtain ⟨rfl, hc⟩ := h3
        exact hc.mono fun e w'' ⟨he, hw''⟩ => by subst he; exact hK _ hw''
    | halt x w' => simp only [strongUpon] at h3
  · simp only [h1, Bool.false_eq_true, if_false]
    exact hK _ (Ext.refl _)
/-- the walk in the order of the text, by the operations' numbers -/
def wpS (P : Program) (ops : Array Oper) (W : World) (E : Act → Prop) : List Nat → Act → Prop
  | [], a => E a
  | i :: r, a => ∃ o v, ops[i]? = some o ∧ StrongY P ops W o v a ∧ wpS P ops W E r (a.put o.dst v)
def wpM (ops : Array Oper) (B : Nat) (mk : Nat → Nat × (Nat → Value)) (E : Act → List Made → Prop) : List Nat → Act → List Made → Prop
  | [], a, T => E a T
  | i :: r, a, T => ∀ o, ops[i]? = some o → ∀ b, B ≤ b → (∀ y ∈ T, y.1 ≠ b) → wpM ops B mk E r (a.put o.dst (.pointer (some ⟨b, 0, none⟩))) ((b, (mk i).1, (mk i).2) :: T)
theorem wpS_mono {E E' : Act → Prop} (h : ∀ a, E a → E' a) : ∀ (l : List Nat) (a : Act), wpS P ops W E l a → wpS P ops W E' l a
  | [], _, hh => h _ hh
  | _ :: r, _, ⟨o, v, h1, h2, h3⟩ => ⟨o, v, h1, h2, wpS_mono h r _ h3⟩
theorem wpS_take {E : Act → Prop} {i : Nat} {o : Oper} (hsel : ∀ (j : Nat) (o : Oper) cs b, ops[j]? = some o → o.op ≠ .select cs b) (hi : ops[i]? = some o) (r2 : List Nat) : ∀ (r1 : List Nat) (a : Act), (∀ k ∈ r1, ∀ ok, ops[k]? = some ok → ok.apart ops o = true) →
    wpS P ops W E (r1 ++ i :: r2) a → ∃ v, StrongY P ops W o v a ∧ wpS P ops W E (r1 ++ r2) (a.put o.dst v)
  | [], a, _, ⟨o', v, h1, h2, h3⟩ => by
    rw [hi] at h1
    injection h1 with h1
    subst h1
    exact ⟨v, h2, h3⟩
  | k :: r1, a, hap, ⟨ok, vk, h1, h2, h3⟩ => by
    obtain ⟨v, g1, g2⟩ := wpS_take hsel hi r2 r1 _ (fun k' hk' => hap k' (List.mem_cons_of_mem _ hk')) h3
    obtain ⟨p1, p2, p3⟩ := Oper.apart_spec (hap k List.mem_cons_self ok h1)
    refine ⟨v, (StrongY.put (fun cs b => hsel i o cs b hi) p1).1 g1, ok, vk, h1, (StrongY.put (fun cs b => hsel k ok cs b h1) p3).2 h2, ?_⟩
    rw [← Act.put_comm a vk v p2]
    exact g2
theorem wpM_congr {B : Nat} {mk : Nat → Nat × (Nat → Value)} {E : Act → List Made → Prop} (hE : ∀ a T T', (∀ y, y ∈ T ↔ y ∈ T') → E a T → E a T') : ∀ (l : List Nat) (a : Act) (T T' : List Made), (∀ y, y ∈ T ↔ y ∈ T') → wpM ops B mk E l a T → wpM ops B mk E l a T'
  | [], _, _, _, hT, h => hE _ _ _ hT h
  | i :: r, a, T, T', hT, h => fun o ho b hb hn => wpM_congr hE r _ _ _ (fun y => by simp only [List.mem_cons, hT]) (h o ho b hb fun y hy => hn y ((hT y).1 hy))
theorem wpM_take {B : Nat} {mk : Nat → Nat × (Nat → Value)} {E : Act → List Made → Prop} (hE : ∀ a T T', (∀ y, y ∈ T ↔ y ∈ T') → E a T → E a T') {i : Nat} {o : Oper} (hi : ops[i]? = some o) (r2 : List Nat) : ∀ (r1 : List Nat) (a : Act) (T : List Made), (∀ k ∈ r1, ∀ ok, ops[k]? = some ok → ok.apart ops o = true) →
    wpM ops B mk E (r1 ++ i :: r2) a T → ∀ b, B ≤ b → (∀ y ∈ T, y.1 ≠ b) → wpM ops B mk E (r1 ++ r2) (a.put o.dst (.pointer (some ⟨b, 0, none⟩))) ((b, (mk i).1, (mk i).2) :: T)
  | [], a, T, _, h => fun b hb hn => h o hi b hb hn
  | k :: r1, a, T, hap, h => fun b hb hn ok hok bk hbk hnk => by
    have h1 := h ok hok bk hbk (fun y hy => hnk y (List.mem_cons_of_mem _ hy))
    obtain ⟨p1, p2, p3⟩ := Oper.apart_spec (hap k List.mem_cons_self ok hok)
    have h2 := wpM_take hE hi r2 r1 _ _ (fun k' hk' => hap k' (List.mem_cons_of_mem _ hk')) h1 b hb (fun y hy => by
      rcases List.mem_cons.1 hy with rfl | hy
      · intro e
        exact hnk _ List.mem_cons_self e.symm
      · exact hn y hy)
    rw [Act.put_comm a _ _ p2] at h2
    exact wpM_congr hE _ _ _ _ (fun y => by simp only [List.mem_cons]; exact ⟨fun h => h.elim (fun h => .inr (.inl h)) (fun h => h.elim .inl (fun h => .inr (.inr h))), fun h => h.elim (fun h => .inr (.inl h)) (fun h => h.elim .inl (fun h => .inr (.inr h)))⟩) h2
theorem wpSM_take {B : Nat} {mk : Nat → Nat × (Nat → Value)} {E : Act → List Made → Prop} (hE : ∀ a T T', (∀ y, y ∈ T ↔ y ∈ T') → E a T → E a T') (hsel : ∀ (j : Nat) (o : Oper) cs b, ops[j]? = some o → o.op ≠ .select cs b) {i : Nat} {o : Oper} (hi : ops[i]? = some o) (s1 s2 : List Nat) (T : List Made)
    (hs1 : ∀ k ∈ s1, ∀ ok, ops[k]? = some ok → ok.apart ops o = true) (b : Nat) (hb : B ≤ b) (hn : ∀ y ∈ T, y.1 ≠ b) : ∀ (r : List Nat) (a : Act), (∀ k ∈ r, ∀ ok, ops[k]? = some ok → ok.apart ops o = true) →
    wpS P ops W (fun A => wpM ops B mk E (s1 ++ i :: s2) A T) r a → wpS P ops W (fun A => wpM ops B mk E (s1 ++ s2) A ((b, (mk i).1, (mk i).2) :: T)) r (a.put o.dst (.pointer (some ⟨b, 0, none⟩)))
  | [], a, _, h => wpM_take hE hi s2 s1 a T hs1 h b hb hn
  | k :: r, a, hap, ⟨ok, vk, h1, h2, h3⟩ => by
    obtain ⟨p1, p2, p3⟩ := Oper.apart_spec (hap k List.mem_cons_self ok h1)
    refine ⟨ok, vk, h1, (StrongY.put (fun cs b => hsel k ok cs b h1) p3).2 h2, ?_⟩
    rw [← Act.put_comm a vk _ p2]
    exact wpSM_take hE hsel hi s1 s2 T hs1 b hb hn r _ (fun k' hk' => hap k' (List.mem_cons_of_mem _ hk')) h3
/-- an operation waits for another one, straight or through others -/
def waits (ops : Array Oper) : Nat → Nat → Nat → Bool
  | 0, _, _ => false
  | f + 1, j, k => match ops[j]? with
    | none => false
    | some o => o.after.any (fun e => Region.binds .any e && e.on == k) || o.after.any (fun e => Region.binds .any e && waits ops f e.on k)
def mildB (ops : Array Oper) (m : Nat) : Bool :=
  Region.noSelect ops && (List.range ops.size).all fun j => match ops[j]? with
    | none => false
    | some o => o.after.all (fun e => !Region.binds .any e || decide (e.on < j)) && (List.range j).all fun k =>
        if j < m then o.after.any (fun e => Region.binds .any e && e.on == k) || (match ops[k]? with | none => false | some ok => ok.apart ops o) else waits ops ops.size j k
def Closed (ops : Array Oper) (L : Array Bool) : Prop := ∀ i o, ops[i]? = some o → L.getD i false = true → ∀ e ∈ o.after, Region.binds .any e = true → L.getD e.on false = true
theorem waits_listed {L : Array Bool} (hC : Closed ops L) : ∀ (f j k : Nat) (o : Oper), ops[j]? = some o → (∀ e ∈ o.after, Region.binds .any e = true → L.getD e.on false = true) → waits ops f j k = true → L.getD k false = true
  | 0, _, _, _, _, _, h => by cases h
  | f + 1, j, k, o, ho, hd, h => by
    unfold waits at h
    rw [ho] at h
    simp only [Bool.or_eq_true, Array.any_eq_true'] at h
    rcases h with ⟨e, he, h⟩ | ⟨e, he, h⟩
    · simp only [Bool.and_eq_true, beq_iff_eq] at h
      rw [← h.2]
      exact hd e he h.1
    · simp only [Bool.and_eq_true] at h
      have h1 := hd e he h.1
      cases hoe : ops[e.on]? with
      | none =>
        have h2 := h.2
        cases f with
        | zero => cases h2
        | succ f => unfold waits at h2; rw [hoe] at h2; cases h2
      | some oe => exact waits_listed hC f e.on k oe hoe (hC e.on oe hoe h1) h.2
/-- the numbers not yet done, of a span -/
def left (L : Array Bool) (b n : Nat) : List Nat := (List.range' b n).filter fun k => !L.getD k true
theorem left_split {L : Array Bool} {b n i : Nat} (h1 : b ≤ i) (h2 : i < b + n) (hi : L.getD i true = false) : ∃ r1 r2, left L b n = r1 ++ i :: r2 ∧ left (L.setIfInBounds i true) b n = r1 ++ r2 ∧ ∀ k ∈ r1, k < i ∧ L.getD k true = false := by
  have hmem : i ∈ List.range' b n := List.mem_range'_1.2 ⟨h1, h2⟩
  obtain ⟨s, t, hst⟩ := List.append_of_mem hmem
  have hp : (s ++ i :: t).Pairwise (· < ·) := by rw [← hst]; exact List.pairwise_lt_range'
  obtain ⟨_, hp2, hp3⟩ := List.pairwise_append.1 hp
  have hp4 := (List.pairwise_cons.1 hp2).1
  have hne : ∀ k, k ≠ i → (L.setIfInBounds i true).getD k true = L.getD k true := fun k hk => getD_set_ne true (Ne.symm hk)
  have hself : (L.setIfInBounds i true).getD i true = true := by
    unfold Array.getD
    split
    · simp
    · rfl
  refine ⟨s.filter fun k => !L.getD k true, t.filter fun k => !L.getD k true, ?_, ?_, ?_⟩
  · unfold left
    rw [hst, List.filter_append, List.filter_cons, if_pos (by simp [hi])]
  · unfold left
    rw [hst, List.filter_append, List.filter_cons, if_neg (by simp [hself])]
    congr 1
    · exact List.filter_congr fun k hk => by rw [hne k (Nat.ne_of_lt (hp3 k hk i List.mem_cons_self))]
    · exact List.filter_congr fun k hk => by rw [hne k (Nat.ne_of_gt (hp4 k hk))]
  · intro k hk
    obtain ⟨hk1, hk2⟩ := List.mem_filter.1 hk
    exact ⟨hp3 k hk1 i List.mem_cons_self, by simpa using hk2⟩
theorem left_other {L : Array Bool} {b n i : Nat} (h : i < b ∨ b + n ≤ i) : left (L.setIfInBounds i true) b n = left L b n := by
  unfold left
  refine List.filter_congr fun k hk => ?_
  have := List.mem_range'_1.1 hk
  rw [getD_set_ne true (show i ≠ k by omega)]
theorem left_nil {L : Array Bool} {b n : Nat} (h : ∀ k, b ≤ k → k < b + n → L.getD k true = true) : left L b n = [] :=
  List.filter_eq_nil_iff.2 fun k hk => by
    have := List.mem_range'_1.1 hk
    simp [h k this.1 this.2]
theorem left_all {L : Array Bool} {b n : Nat} (h : ∀ k, b ≤ k → k < b + n → L.getD k true = false) : left L b n = List.range' b n :=
  List.filter_eq_self.2 fun k hk => by
    have := List.mem_range'_1.1 hk
    simp [h k this.1 this.2]
structure MildAt (P : Program) (ops : Array Oper) (W : World) (Q : Exit → Act → World → Prop) (q p : Nat) (mk : Nat → Nat × (Nat → Value)) (E : Act → List Made → Prop) (L : Array Bool) (A : Act) (w : World) : Prop where
  size : L.size = ops.size
  closed : Closed ops L
  way : ((∀ i, q + p ≤ i → i < ops.size → L.getD i false = false) ∧ ∃ T, Ext W w ∧ Holds T w ∧ wpS P ops W (fun A' => wpM ops W.heap.size mk E (left L q p) A' T) (left L 0 q) A) ∨
    (∃ j, q + p < j ∧ j ≤ ops.size ∧ (∀ i, i < j → L.getD i false = true) ∧ (∀ i, j ≤ i → i < ops.size → L.getD i false = false) ∧ wpList P ops Q (ops.toList.drop j) A w)
theorem getD_flip {L : Array Bool} {i : Nat} : L.getD i true = false → L.getD i false = false := by
  unfold Array.getD
  split
  · exact id
  · intro h; cases h
theorem getD_flip' {L : Array Bool} {i : Nat} (h : i < L.size) : L.getD i false = L.getD i true := by
  unfold Array.getD
  simp [h]
theorem getD_same {L : Array Bool} {i : Nat} (h : i < L.size) : (L.setIfInBounds i true).getD i false = true := by
  unfold Array.getD
  simp [h]
theorem Closed.step {L : Array Bool} (hC : Closed ops L) {i : Nat} {o : Oper} (ho : ops[i]? = some o) (hd : ∀ e ∈ o.after, Region.binds .any e = true → L.getD e.on false = true) : Closed ops (L.setIfInBounds i true) := by
  intro j oj hoj hj e he hb
  have up : ∀ k, L.getD k false = true → (L.setIfInBounds i true).getD k false = true := by
    intro k hk
    by_cases e1 : i = k
    · subst e1
      refine getD_same ?_
      unfold Array.getD at hk
      split at hk
      · assumption
      · cases hk
    · rw [getD_set_ne false e1]; exact hk
  by_cases e1 : i = j
  · subst e1
    rw [ho] at hoj
    injection hoj with hoj
    subst hoj
    exact up _ (hd e he hb)
  · rw [getD_set_ne false e1] at hj
    exact up _ (hC j oj hoj hj e he hb)
theorem wpOp_of_list {i : Nat} {o : Oper} {rest : List Oper} {K : Act → World → Prop} {A : Act} {X : World} (ho : ops[i]? = some o) (h : wpList P ops Q (o :: rest) A X) (hK : ∀ a w, wpList P ops Q rest a w → K a w) : wpOp P ops Q i K A X := by
  unfold wpList at h
  unfold wpOp
  rw [ho]
  by_cases hw : Region.wanted o (yielded ops A.tmps) = true
  · rw [if_pos hw] at h
    simp only [hw, if_true]
    exact h.imp (Oper.wp_mono hK) id
  · rw [if_neg hw] at h
    simp only [hw]
    exact hK _ _ h
theorem mildB_spec {m : Nat} (h : mildB ops m = true) : (∀ (j : Nat) (o : Oper) cs b, ops[j]? = some o → o.op ≠ .select cs b) ∧ ∀ j o, ops[j]? = some o → (∀ e ∈ o.after, Region.binds .any e = true → e.on < j) ∧
    (j < m → ∀ k ok, k < j → ops[k]? = some ok → (∃ e ∈ o.after, Region.binds .any e = true ∧ e.on = k) ∨ ok.apart ops o = true) ∧ (m ≤ j → ∀ k, k < j → waits ops ops.size j k = true) := by
  unfold mildB at h
  rw [Bool.and_eq_true] at h
  refine ⟨Region.noSelect_spec h.1, fun j o ho => ?_⟩
  have hj : j < ops.size := (Array.getElem?_eq_some_iff.1 ho).1
  have h1 := List.all_eq_true.1 h.2 j (List.mem_range.2 hj)
  rw [ho] at h1
  simp only [Bool.and_eq_true] at h1
  refine ⟨fun e he hb => ?_, fun hm k ok hk hok => ?_, fun hm k hk => ?_⟩
  · have := Array.all_eq_true'.1 h1.1 e he
    simpa [hb] using this
  · have := List.all_eq_true.1 h1.2 k (List.mem_range.2 hk)
    rw [if_pos hm, hok, Bool.or_eq_true] at this
    rcases this with h2 | h2
    · obtain ⟨e, he, h3⟩ := Array.any_eq_true'.1 h2
      simp only [Bool.and_eq_true, beq_iff_eq] at h3
      exact .inl ⟨e, he, h3.1, h3.2⟩
    · exact .inr h2
  · have := List.all_eq_true.1 h1.2 k (List.mem_range.2 hk)
    rwa [if_neg (by omega)] at this
theorem drop_at {i : Nat} {o : Oper} (ho : ops[i]? = some o) : ops.toList.drop i = o :: ops.toList.drop (i + 1) := by
  have hi : i < ops.toList.length := by simpa using (Array.getElem?_eq_some_iff.1 ho).1
  rw [List.drop_eq_getElem_cons hi]
  have h2 : ops.toList[i]? = some o := by rw [Array.getElem?_toList]; exact ho
  rw [List.getElem?_eq_getElem hi] at h2
  injection h2 with h2
  rw [h2]
theorem wp_region_mild {id : Nat} {a : Act} {w : World} (q p : Nat) (mk : Nat → Nat × (Nat → Value)) (hm : P.follows .mixedOrders = true) (hB : mildB ops (q + p) = true) (hqp : q + p ≤ ops.size) (hmk : ∀ i, q ≤ i → i < q + p → ∃ o, ops[i]? = some o ∧ Makes P o (mk i).1 (mk i).2)
    (h : wpS P ops w.drew (fun A => wpM ops w.drew.heap.size mk (fun A' T => ∀ w', Ext w.drew w' → Holds T w' → wpList P ops Q (ops.toList.drop (q + p)) A' w') (List.range' q p) A []) (List.range' 0 q) a) : (Code.region id ops true).wp P Q a w := by
  obtain ⟨hsel, hb⟩ := mildB_spec hB
  have hE : ∀ (A : Act) (T T' : List Made), (∀ y, y ∈ T ↔ y ∈ T') → (∀ w', Ext w.drew w' → Holds T w' → wpList P ops Q (ops.toList.drop (q + p)) A w') → (∀ w', Ext w.drew w' → Holds T' w' → wpList P ops Q (ops.toList.drop (q + p)) A w') :=
    fun A T T' hT hh w' hw' hH => hh w' hw' fun y hy => hH y ((hT y).1 hy)
  refine wp_region_inv (I := MildAt P ops w.drew Q q p mk fun A' T => ∀ w', Ext w.drew w' → Holds T w' → wpList P ops Q (ops.toList.drop (q + p)) A' w') hm ?h0 ?hs ?he
  case h0 =>
    have hf : ∀ k d, k < ops.size → (Array.replicate ops.size false).getD k d = false := fun k d hk => by unfold Array.getD; simp [hk]
    refine ⟨by simp, ?_, .inl ⟨fun i _ hi => hf i _ hi, [], Ext.refl _, (fun y hy => by cases hy), ?_⟩⟩
    · intro i o ho hi
      rw [hf i _ (Array.getElem?_eq_some_iff.1 ho).1] at hi
      cases hi
    · rw [left_all fun k _ hk => hf k _ (by omega), left_all fun k _ hk => hf k _ (by omega)]
      exact h
  case hs =>
    intro L A X i o hI ho hl hdeps
    have hin : i < ops.size := (Array.getElem?_eq_some_iff.1 ho).1
    have hiL : i < L.size := by rw [hI.size]; exact hin
    have hlf := getD_flip hl
    obtain ⟨_, b2, b3⟩ := hb i o ho
    have hsize : (L.setIfInBounds i true).size = ops.size := by simp [hI.size]
    have hclosed := hI.closed.step ho hdeps
    have hap : i < q + p → ∀ k, k < i → L.getD k true = false → ∀ ok, ops[k]? = some ok → ok.apart ops o = true := by
      intro him k hk hkl ok hok
      rcases b2 him k ok hk hok with ⟨e, he, hbe, rfl⟩ | h2
      · have h3 := hdeps e he hbe
        rw [getD_flip hkl] at h3
        cases h3
      · exact h2
    have hall : q + p ≤ i → ∀ k, k < i → L.getD k false = true := fun hmi k hk => waits_listed hI.closed _ i k o ho hdeps (b3 hmi k hk)
    rcases hI.way with ⟨h1, T, hX, hT, hw⟩ | ⟨j, hj1, hj2, hj3, hj4, hw⟩
    · by_cases hiq : i < q
      · obtain ⟨r1, r2, e1, e2, e3⟩ := left_split (L := L) (b := 0) (n := q) (i := i) (by omega) (by omega) hl
        rw [e1] at hw
        obtain ⟨v, hv, hr⟩ := wpS_take hsel ho r2 r1 A (fun k hk => hap (by omega) k (e3 k hk).1 (e3 k hk).2) hw
        refine StrongY.wpOp ho hX hv fun w' hw' => ⟨hsize, hclosed, .inl ⟨fun k hk hkn => ?_, T, hX.trans hw', hT.ext hw', ?_⟩⟩
        · rw [getD_set_ne false (by omega)]; exact h1 k hk hkn
        · rw [left_other (b := q) (n := p) (by omega), e2]; exact hr
      · by_cases him : i < q + p
        · obtain ⟨o', ho', hg, hrun⟩ := hmk i (by omega) him
          rw [ho] at ho'
          injection ho' with ho'
          subst ho'
          obtain ⟨r1, r2, e1, e2, e3⟩ := left_split (L := L) (b := q) (n := p) (i := i) (by omega) (by omega) hl
          rw [e1] at hw
          obtain ⟨C, t, hr1, hr2⟩ := hrun A.eval X
          refine wpOp_plain ho hg ?_
          unfold Oper.wp
          rw [hr1]
          simp only [Oper.upon]
          have hXs : w.drew.heap.size ≤ X.heap.size := Below.size hX
          have hXa : Ext X (X.alloc (.cells C t)) := (Below.refl _ _).alloc (Nat.le_refl _) _
          have hfresh : ∀ y ∈ T, y.1 ≠ X.heap.size := fun y hy => Nat.ne_of_lt (hT y hy).2.2
          have hnew := wpSM_take (P := P) (W := w.drew) hE hsel ho r1 r2 T (fun k hk => hap him k (e3 k hk).1 (e3 k hk).2) X.heap.size hXs hfresh (left L 0 q) A (fun k hk => by
            obtain ⟨k1, k2⟩ := List.mem_filter.1 hk
            have := List.mem_range'_1.1 k1
            exact hap him k (by omega) (by simpa using k2)) hw
          refine ⟨hsize, hclosed, .inl ⟨fun k hk hkn => ?_, (X.heap.size, (mk i).1, (mk i).2) :: T, hX.trans hXa, ?_, ?_⟩⟩
          · rw [getD_set_ne false (by omega)]; exact h1 k hk hkn
          · intro y hy
            rcases List.mem_cons.1 hy with rfl | hy
            · exact RowAt.newOf X _ _ t C hr2
            · exact (hT y hy).carry hXa
          · rw [left_other (b := 0) (n := q) (by omega), e2]; exact hnew
        · have hi2 : i = q + p := by
            rcases Nat.lt_or_ge (q + p) i with h2 | h2
            · have h3 := hall (by omega) (q + p) h2
              rw [h1 (q + p) (Nat.le_refl _) (by omega)] at h3
              cases h3
            · omega
          subst hi2
          have hk := hall (Nat.le_refl _)
          have n1 : left L 0 q = [] := left_nil fun k _ hk2 => by rw [← getD_flip' (by rw [hI.size]; omega)]; exact hk k (by omega)
          have n2 : left L q p = [] := left_nil fun k _ hk2 => by rw [← getD_flip' (by rw [hI.size]; omega)]; exact hk k (by omega)
          rw [n1, n2] at hw
          have hw2 : wpList P ops Q (ops.toList.drop (q + p)) A X := hw X hX hT
          rw [drop_at ho] at hw2
          refine wpOp_of_list ho hw2 fun a' w' hh => ⟨hsize, hclosed, .inr ⟨q + p + 1, by omega, by omega, fun k hk2 => ?_, fun k hk2 hkn => ?_, hh⟩⟩
          · rcases Nat.lt_or_ge k (q + p) with h3 | h3
            · rw [getD_set_ne false (by omega)]; exact hk k h3
            · obtain rfl : k = q + p := by omega
              exact getD_same hiL
          · rw [getD_set_ne false (by omega)]; exact h1 k (by omega) hkn
    · have hij : i = j := by
        rcases Nat.lt_or_ge i j with h2 | h2
        · rw [hj3 i h2] at hlf; cases hlf
        · rcases Nat.lt_or_ge j i with h3 | h3
          · have h4 := hall (by omega) j h3
            rw [hj4 j (Nat.le_refl _) (by omega)] at h4
            cases h4
          · omega
      subst hij
      rw [drop_at ho] at hw
      refine wpOp_of_list ho hw fun a' w' hh => ⟨hsize, hclosed, .inr ⟨i + 1, by omega, by omega, fun k hk2 => ?_, fun k hk2 hkn => ?_, hh⟩⟩
      · rcases Nat.lt_or_ge k i with h3 | h3
        · rw [getD_set_ne false (by omega)]; exact hj3 k h3
        · obtain rfl : k = i := by omega
          exact getD_same hiL
      · rw [getD_set_ne false (by omega)]; exact hj4 k (by omega) hkn
  case he =>
    intro L A X hI hr
    have hall : ∀ n k, k < n → k < ops.size → L.getD k false = true := by
      intro n
      induction n with
      | zero => intro k hk; omega
      | succ n ih =>
        intro k hk hkn
        cases hv : L.getD k false with
        | true => rfl
        | false =>
          exfalso
          have ho : ops[k]? = some ops[k] := Array.getElem?_eq_getElem hkn
          have hmem : k ∈ Region.ready .any ops L := mem_ready.2 ⟨by rw [← getD_flip' (by rw [hI.size]; omega)]; exact hv, ops[k], ho, fun e he hbe => ih e.on (by have := (hb k _ ho).1 e he hbe; omega) (by have := (hb k _ ho).1 e he hbe; omega)⟩
          rw [hr] at hmem
          cases hmem
    have hk : ∀ k, k < ops.size → L.getD k false = true := fun k hk => hall (k + 1) k (by omega) hk
    rcases hI.way with ⟨h1, T, hX, hT, hw⟩ | ⟨j, hj1, hj2, hj3, hj4, hw⟩
    · have n1 : left L 0 q = [] := left_nil fun k _ hk2 => by rw [← getD_flip' (by rw [hI.size]; omega)]; exact hk k (by omega)
      have n2 : left L q p = [] := left_nil fun k _ hk2 => by rw [← getD_flip' (by rw [hI.size]; omega)]; exact hk k (by omega)
      rw [n1, n2] at hw
      have hw2 : wpList P ops Q (ops.toList.drop (q + p)) A X := hw X hX hT
      have hnm : q + p = ops.size := by
        rcases Nat.lt_or_ge (q + p) ops.size with h3 | h3
        · have h4 := hk _ h3
          rw [h1 _ (Nat.le_refl _) h3] at h4
          cases h4
        · omega
      rw [List.drop_of_length_le (by simp [hnm])] at hw2
      exact hw2
    · have hnm : j = ops.size := by
        rcases Nat.lt_or_ge j ops.size with h3 | h3
        · have h4 := hk _ h3
          rw [hj4 _ (Nat.le_refl _) h3] at h4
          cases h4
        · omega
      rw [List.drop_of_length_le (by simp [hnm])] at hw
      exact hw
/-- the walk in the order of the text -/
def wpStrong (P : Program) (ops : Array Oper) (W : World) (E : Act → Prop) : List Oper → Act → Prop
  | [], a => E a
  | o :: r, a => ∃ v, StrongY P ops W o v a ∧ wpStrong P ops W E r (a.put o.dst v)
theorem wpS_of_strong {E : Act → Prop} : ∀ (l : List Oper) (k : Nat) (a : Act), (∀ j, j < l.length → ops[k + j]? = l[j]?) → wpStrong P ops W E l a → wpS P ops W E (List.range' k l.length) a
  | [], _, _, _, h => h
  | o :: l, k, a, hl, ⟨v, h1, h2⟩ => ⟨o, v, by simpa using hl 0 (by simp), h1, wpS_of_strong l (k + 1) _ (fun j hj => by have := hl (j + 1) (by simpa using hj); simpa [Nat.add_assoc, Nat.add_comm 1 j] using this) h2⟩
/-- no block is made: what stands behind the first q operations goes on in every world behind -/
theorem wp_region_late {id : Nat} {a : Act} {w : World} {l : List Oper} (q : Nat) (hm : P.follows .mixedOrders = true) (hB : mildB l.toArray q = true) (hq : q ≤ l.length)
    (h : wpStrong P l.toArray w.drew (fun A => ∀ w', Ext w.drew w' → wpList P l.toArray Q (l.drop q) A w') (l.take q) a) : (Code.region id l.toArray true).wp P Q a w := by
  refine wp_region_mild q 0 (fun _ => (0, fun _ => undef)) hm hB (by simpa using hq) (fun i h1 h2 => by omega) ?_
  have hlen : (l.take q).length = q := by simp [hq]
  have := wpS_of_strong (l.take q) 0 a (fun j hj => by simp [show j < q by omega]) h
  rw [hlen] at this
  exact wpS_mono (fun A hA w' hw' _ => by simpa using hA w' hw') _ _ this
/-- one block is made behind the first q operations -/
theorem wp_region_made {id : Nat} {a : Act} {w : World} {l : List Oper} (q n : Nat) (g : Nat → Value) (o : Oper) (hm : P.follows .mixedOrders = true) (hB : mildB l.toArray (q + 1) = true) (ho : l[q]? = some o) (hmk : Makes P o n g)
    (h : wpStrong P l.toArray w.drew (fun A => ∀ b w', w.heap.size ≤ b → Ext w.drew w' → RowAt b n g w' → wpList P l.toArray Q (l.drop (q + 1)) (A.put o.dst (.pointer (some ⟨b, 0, none⟩))) w') (l.take q) a) : (Code.region id l.toArray true).wp P Q a w := by
  have hlt : q < l.length := (List.getElem?_eq_some_iff.1 ho).1
  have hat : ∀ i, q ≤ i → i < q + 1 → ∃ o, l.toArray[i]? = some o ∧ Makes P o n g := by
    intro i h1 h2
    obtain rfl : i = q := by omega
    exact ⟨o, by simpa using ho, hmk⟩
  refine wp_region_mild q 1 (fun _ => (n, g)) hm hB (by simp; omega) hat ?_
  have hlen : (l.take q).length = q := by simp; omega
  have := wpS_of_strong (l.take q) 0 a (fun j hj => by simp [show j < q by omega]) h
  rw [hlen] at this
  refine wpS_mono (fun A hA => ?_) _ _ this
  intro o' ho' b hb _ w' hw' hT
  have ho2 : l[q]? = some o' := by simpa using ho'
  rw [ho] at ho2
  injection ho2 with ho2
  subst ho2
  exact hA b w' hb hw' (hT _ List.mem_cons_self)
/-- two blocks are made behind the first q operations -/
theorem wp_region_made2 {id : Nat} {a : Act} {w : World} {l : List Oper} (q n1 : Nat) (g1 : Nat → Value) (n2 : Nat) (g2 : Nat → Value) (o1 o2 : Oper) (hm : P.follows .mixedOrders = true) (hB : mildB l.toArray (q + 2) = true) (ho1 : l[q]? = some o1) (ho2 : l[q + 1]? = some o2) (hmk1 : Makes P o1 n1 g1) (hmk2 : Makes P o2 n2 g2)
    (h : wpStrong P l.toArray w.drew (fun A => ∀ b1 b2 w', w.heap.size ≤ b1 → w.heap.size ≤ b2 → b1 ≠ b2 → Ext w.drew w' → RowAt b1 n1 g1 w' → RowAt b2 n2 g2 w' → wpList P l.toArray Q (l.drop (q + 2)) ((A.put o1.dst (.pointer (some ⟨b1, 0, none⟩))).put o2.dst (.pointer (some ⟨b2, 0, none⟩))) w') (l.take q) a) : (Code.region id l.toArray true).wp P Q a w := by
  have hlt : q + 1 < l.length := (List.getElem?_eq_some_iff.1 ho2).1
  have hat : ∀ i, q ≤ i → i < q + 2 → ∃ o, l.toArray[i]? = some o ∧ Makes P o (if i = q then (n1, g1) else (n2, g2)).1 (if i = q then (n1, g1) else (n2, g2)).2 := by
    intro i h1 h2
    by_cases e : i = q
    · subst e
      rw [if_pos rfl]
      exact ⟨o1, by simpa using ho1, hmk1⟩
    · obtain rfl : i = q + 1 := by omega
      rw [if_neg e]
      exact ⟨o2, by simpa using ho2, hmk2⟩
  refine wp_region_mild q 2 (fun i => if i = q then (n1, g1) else (n2, g2)) hm hB (by simp; omega) hat ?_
  have hlen : (l.take q).length = q := by simp; omega
  have := wpS_of_strong (l.take q) 0 a (fun j hj => by simp [show j < q by omega]) h
  rw [hlen] at this
  refine wpS_mono (fun A hA => ?_) _ _ this
  intro o' ho' b hb _ o'' ho'' b' hb' hn' w' hw' hT
  have e1 : l[q]? = some o' := by simpa using ho'
  rw [ho1] at e1
  injection e1 with e1
  subst e1
  have e2 : l[q + 1]? = some o'' := by simpa using ho''
  rw [ho2] at e2
  injection e2 with e2
  subst e2
  have t1 := hT (b, (if q = q then (n1, g1) else (n2, g2)).1, (if q = q then (n1, g1) else (n2, g2)).2) (by simp)
  have t2 := hT (b', (if q + 1 = q then (n1, g1) else (n2, g2)).1, (if q + 1 = q then (n1, g1) else (n2, g2)).2) (by simp)
  rw [if_pos rfl] at t1
  rw [if_neg (by omega)] at t2
  exact hA b b' w' hb hb' (fun e => hn' _ List.mem_cons_self e) hw' t1 t2
theorem StrongY.call {o : Oper} {v : Value} {a : Act} {f : FuncId} {args : Array Value} (hw : Region.wanted o (yielded ops a.tmps) = true) (hr : ∀ w, (execOp a.eval o).run P w = .ok (.enter f args) w) (hc : ∀ w, Ext W w → Calls P f args w fun e w' => e = .returned v ∧ Below w.heap.size w w') : StrongY P ops W o v a :=
  .inl ⟨hw, fun w h => by rw [hr w]; exact ⟨rfl, hc w h⟩⟩
/-- operations that call nothing -/
def Op.plain : Op → Bool
  | .call _ | .go _ | .defer _ | .send _ _ | .recv _ _ _ | .select _ _ => false
  | _ => true
theorem runV {s : Sem Value} {w w' : World} {n : Next} (h : Sem.run P (do pure (Next.value (← s))) w = .ok n w') : ∃ v, n = .value v := by
  rw [Sem.run_bind] at h
  cases hs : Sem.run P s w with
  | ok v w1 => rw [hs] at h; simp at h; exact ⟨v, h.1.symm⟩
  | halt x w1 => rw [hs] at h; simp at h
theorem runU {s : Sem Unit} {w w' : World} {n : Next} (h : Sem.run P (do s; pure Next.skip) w = .ok n w') : n = .skip := by
  rw [Sem.run_bind] at h
  cases hs : Sem.run P s w with
  | ok v w1 => rw [hs] at h; simp at h; exact h.1.symm
  | halt x w1 => rw [hs] at h; simp at h
theorem plain_runs {o : Oper} (hp : Op.plain o.op = true) {ρ : Operand → Value} {w w' : World} {n : Next} (h : (execOp ρ o).run P w = .ok n w') : (∃ v, n = .value v) ∨ n = .skip := by
  obtain ⟨dst, op, type, pos, after, guard⟩ := o
  cases op <;> first | (exfalso; exact Bool.noConfusion hp) | (simp only [execOp] at h; first | exact .inl (runV h) | exact .inr (runU h) | skip)
  case move x => simp at h; exact .inl ⟨_, h.1.symm⟩
  case assign x => simp at h; exact .inl ⟨_, h.1.symm⟩
  case pick c a b =>
    rw [Sem.run_bind] at h
    cases hs : Sem.run P (asBool (ρ c)) w with
    | ok v w1 => rw [hs] at h; simp at h; exact .inl ⟨_, h.1.symm⟩
    | halt x w1 => rw [hs] at h; simp at h
  case nilCheck x =>
    have hpanic : Sem.run P (runtimePanic .nilDeref : Sem Next) w = .ok n w' → False := by
      intro he
      simp [runtimePanic, goPanic] at he
    split at h
    · exact (hpanic h).elim
    · exact (hpanic h).elim
    · exact (hpanic h).elim
    · split at h
      · exact (hpanic h).elim
      · rw [Sem.run_bind] at h
        rw [show Sem.run P program w = .ok P w from rfl, Result.andThen_ok] at h
        rw [Sem.run_bind] at h
        rename_i w0 _
        cases hs : Sem.run P (nilAhead (P.types.size + Made.depth) _ w0 _) w with
        | ok v w1 =>
          rw [hs] at h
          simp only [Result.andThen_ok] at h
          split at h
          · simp [unsupported] at h
          · simp at h; exact .inl ⟨_, h.1.symm⟩
        | halt x w1 => rw [hs] at h; simp at h
      · simp at h; exact .inl ⟨_, h.1.symm⟩
    · simp at h; exact .inl ⟨_, h.1.symm⟩
theorem strong_of_quiet {o : Oper} {a : Act} {v : Value} (hp : Op.plain o.op = true) (hw : Region.wanted o (yielded ops a.tmps) = true) {C : World → Prop} (hC : ∀ w, Ext W w → C w) (h : ∀ w, C w → o.quietAt P a C w v) : StrongY P ops W o v a := by
  refine .inl ⟨hw, fun w hW => ?_⟩
  have h1 := h w (hC w hW)
  unfold Oper.quietAt at h1
  cases hr : (execOp a.eval o).run P w with
  | ok n w' =>
    rw [hr] at h1
    rcases plain_runs hp hr with ⟨u, rfl⟩ | rfl
    · exact h1
    · exact h1
  | halt x w' => rw [hr] at h1; simp only [Oper.quietUpon] at h1
theorem wpStrong_append {E : Act → Prop} (l2 : List Oper) : ∀ (l1 : List Oper) (a : Act), (l1.all fun o => Op.plain o.op) = true →
    wpQuiet P ops (fun w' => ∃ k : Kept (Ext W), w' = k.w) (fun a' => wpStrong P ops W E l2 a') l1 a → wpStrong P ops W E (l1 ++ l2) a
  | [], _, _, h => h
  | o :: l1, a, hp, h => by
    simp only [List.all_cons, Bool.and_eq_true] at hp
    unfold wpQuiet at h
    by_cases hw : Region.wanted o (yielded ops a.tmps) = true
    · rw [if_pos hw] at h
      obtain ⟨v, h1, h2⟩ := h
      exact ⟨v, strong_of_quiet hp.1 hw (fun w hW => ⟨⟨w, hW⟩, rfl⟩) h1, wpStrong_append l2 l1 _ hp.2 h2⟩
    · rw [if_neg hw] at h
      exact ⟨undef, .inr ⟨by simpa using hw, rfl⟩, wpStrong_append l2 l1 _ hp.2 h⟩
/-- the next k operations call nothing: the walk of the library -/
theorem wpStrong_run {E : Act → Prop} {l : List Oper} {a : Act} (k : Nat) (hp : ((l.take k).all fun o => Op.plain o.op) = true)
    (h : wpQuiet P ops (fun w' => ∃ k : Kept (Ext W), w' = k.w) (fun a' => wpStrong P ops W E (l.drop k) a') (l.take k) a) : wpStrong P ops W E l a := by
  have := wpStrong_append (l.drop k) (l.take k) a hp h
  rwa [List.take_append_drop] at this
theorem wpStrong_call {E : Act → Prop} {o : Oper} {rest : List Oper} {a : Act} {v : Value} {f : FuncId} {args : Array Value} (hw : Region.wanted o (yielded ops a.tmps) = true) (hr : ∀ w, (execOp a.eval o).run P w = .ok (.enter f args) w) (hc : ∀ w, Ext W w → Calls P f args w fun e w' => e = .returned v ∧ Below w.heap.size w w')
    (h : wpStrong P ops W E rest (a.put o.dst v)) : wpStrong P ops W E (o :: rest) a := ⟨v, StrongY.call hw hr hc, h⟩
theorem wpStrong_nil {E : Act → Prop} {a : Act} (h : E a) : wpStrong P ops W E [] a := h
theorem kept_ne (W : World) : Nonempty (Kept (Ext W)) := ⟨⟨W, Ext.refl W⟩⟩
end
theorem RowAt.kept {b n : Nat} {g : Nat → Value} {X : World} (h : RowAt b n g X) (j : Nat) (hj : j < n) (k : Kept (Ext X.drew)) : k.w.cell? ⟨b, j, none⟩ = some (g j) := (h.drew.carry k.ok).1 j hj
theorem ext_drewN (w : World) : ∀ n, Ext w (w.drewN n)
  | 0 => Ext.refl _
  | n + 1 => (ext_drewN w n).drew
theorem Ext.draw {W w : World} (h : Ext W w) : Ext W w.drew := Below.drew h
theorem Ext.below {B : Nat} {w X Y : World} (h : Below B w X) (hB : B ≤ X.heap.size) (k : Ext X Y) : Below B w Y := Below.trans h (Below.mono k hB)
/-- an operation whose run is known -/
theorem wpList_run {P : Program} {w : World} {ops : Array Oper} {rest : List Oper} {o : Oper} {a : Act} {Q : Exit → Act → World → Prop} (hg : o.guard = none) (v : Value) (hr : (execOp a.eval o).run P w = .ok (.value v) w)
    (h : wpList P ops Q rest (a.put o.dst v) w) : wpList P ops Q (o :: rest) a w := by
  refine wpList_plain hg fun K hK => ?_
  unfold Oper.wp
  rw [hr]
  simp only [Oper.upon]
  exact hK _ _ h
theorem wpList_build {P : Program} {w : World} {ops : Array Oper} {rest : List Oper} {o : Oper} {a : Act} {Q : Exit → Act → World → Prop} (hg : o.guard = none) (t : TypeId) (l : List (Nat × Operand)) (ho : o.op = .build t l.toArray) (v : Value)
    (hr : (Instr.build t (l.map fun x => (x.1, a.eval x.2)).toArray).run P w = .ok v w) (h : wpList P ops Q rest (a.put o.dst v) w) : wpList P ops Q (o :: rest) a w := by
  refine wpList_run hg v ?_ h
  unfold execOp
  rw [ho]
  simp only [List.map_toArray, Sem.run_bind, hr, Result.andThen_ok, Sem.run_pure]
theorem wpList_call {P : Program} {w : World} {ops : Array Oper} {rest : List Oper} {o : Oper} {a : Act} {Q : Exit → Act → World → Prop} (hg : o.guard = none) {f : FuncId} {args : Array Value} (hr : (execOp a.eval o).run P w = .ok (.enter f args) w)
    (hc : Calls P f args w fun e w' => ∃ v, e = .returned v ∧ wpList P ops Q rest (a.put o.dst v) w') : wpList P ops Q (o :: rest) a w := by
  refine wpList_plain hg fun K hK => ?_
  unfold Oper.wp
  rw [hr]
  simp only [Oper.upon]
  refine hc.mono ?_
  rintro e w' ⟨v, rfl, h⟩
  exact hK _ _ h
theorem wpList_runW {P : Program} {w : World} {ops : Array Oper} {rest : List Oper} {o : Oper} {a : Act} {Q : Exit → Act → World → Prop} (hw : Region.wanted o (yielded ops a.tmps) = true) (v : Value) (hr : (execOp a.eval o).run P w = .ok (.value v) w)
    (h : wpList P ops Q rest (a.put o.dst v) w) : wpList P ops Q (o :: rest) a w :=
  wpList_step fun K hK => by
    rw [if_pos hw]
    unfold Oper.wp
    rw [hr]
    simp only [Oper.upon]
    exact hK _ _ h
theorem wpList_buildW {P : Program} {w : World} {ops : Array Oper} {rest : List Oper} {o : Oper} {a : Act} {Q : Exit → Act → World → Prop} (hw : Region.wanted o (yielded ops a.tmps) = true) (t : TypeId) (l : List (Nat × Operand)) (ho : o.op = .build t l.toArray) (v : Value)
    (hr : (Instr.build t (l.map fun x => (x.1, a.eval x.2)).toArray).run P w = .ok v w) (h : wpList P ops Q rest (a.put o.dst v) w) : wpList P ops Q (o :: rest) a w := by
  refine wpList_runW hw v ?_ h
  unfold execOp
  rw [ho]
  simp only [List.map_toArray, Sem.run_bind, hr, Result.andThen_ok, Sem.run_pure]
theorem wpList_callW {P : Program} {w : World} {ops : Array Oper} {rest : List Oper} {o : Oper} {a : Act} {Q : Exit → Act → World → Prop} (hw : Region.wanted o (yielded ops a.tmps) = true) {f : FuncId} {args : Array Value} (hr : (execOp a.eval o).run P w = .ok (.enter f args) w)
    (hc : Calls P f args w fun e w' => ∃ v, e = .returned v ∧ wpList P ops Q rest (a.put o.dst v) w') : wpList P ops Q (o :: rest) a w :=
  wpList_step fun K hK => by
    rw [if_pos hw]
    unfold Oper.wp
    rw [hr]
    simp only [Oper.upon]
    refine hc.mono ?_
    rintro e w' ⟨v, rfl, h⟩
    exact hK _ _ h
theorem wpList_to {P : Program} {w : World} {ops : Array Oper} {rest : List Oper} {o : Oper} {a : Act} {Q : Exit → Act → World → Prop} (hg : o.guard = none) (v : Value) (w' : World) (hr : (execOp a.eval o).run P w = .ok (.value v) w')
    (h : wpList P ops Q rest (a.put o.dst v) w') : wpList P ops Q (o :: rest) a w := by
  refine wpList_plain hg fun K hK => ?_
  unfold Oper.wp
  rw [hr]
  simp only [Oper.upon]
  exact hK _ _ h
end Go.Proofs.YtenlokmoijeehaaDoor
namespace Go.Proofs.YtenlokmoijeehaaDoor
open Go.RowKit
section
variable {P : Program} {ops : Array Oper} {W : World} {Q : Exit → Act → World → Prop}
/-- in a frame, in every world behind W, the operation makes a block of n cells told by g, and yields vf of the block -/
def StrongM (P : Program) (ops : Array Oper) (W : World) (o : Oper) (n : Nat) (g : Nat → Value) (vf : Nat → Value) (a : Act) : Prop :=
  Region.wanted o (yielded ops a.tmps) = true ∧ ∀ w, Ext W w → ∃ C t, (execOp a.eval o).run P w = .ok (.value (vf w.heap.size)) (w.alloc (.cells C t)) ∧ ∀ j, j < n → C[j]? = some (g j)
theorem StrongM.put {o : Oper} {n : Nat} {g vf : Nat → Value} {u : Value} {a : Act} {d : Option Tmp} (hs : ∀ cs b, o.op ≠ .select cs b) (h : ∀ t, d = some t → t ∉ o.looksAt ops) : StrongM P ops W o n g vf (a.put d u) ↔ StrongM P ops W o n g vf a := by
  unfold StrongM
  rw [execOp_put (ops := ops) o hs a d u h, wanted_put o a d u h]
def MK (P : Program) (ops : Array Oper) (W : World) (Q : Exit → Act → World → Prop) (om : Oper) (lops : List Oper) (A : Act) : Prop :=
  ∃ n g vf, StrongM P ops W om n g vf A ∧ ∀ b w', W.heap.size ≤ b → Ext W w' → RowAt b n g w' → wpList P ops Q lops (A.put om.dst (vf b)) w'
def After (P : Program) (ops : Array Oper) (W : World) (Q : Exit → Act → World → Prop) (lops : List Oper) (b n : Nat) (g : Nat → Value) (A : Act) : Prop := ∀ w', Ext W w' → RowAt b n g w' → wpList P ops Q lops A w'
theorem mk_take {om : Oper} {lops : List Oper} (hsel : ∀ (j : Nat) (o : Oper) cs b, ops[j]? = some o → o.op ≠ .select cs b) {m : Nat} (hm : ops[m]? = some om) : ∀ (r : List Nat) (a : Act), (∀ k ∈ r, ∀ ok, ops[k]? = some ok → ok.apart ops om = true) →
    wpS P ops W (MK P ops W Q om lops) r a → ∃ n g vf, StrongM P ops W om n g vf a ∧ ∀ b, W.heap.size ≤ b → wpS P ops W (After P ops W Q lops b n g) r (a.put om.dst (vf b))
  | [], a, _, ⟨n, g, vf, h1, h2⟩ => ⟨n, g, vf, h1, fun b hb w' hw' hr => h2 b w' hb hw' hr⟩
  | k :: r, a, hap, ⟨ok, vk, h1, h2, h3⟩ => by
    obtain ⟨p1, p2, p3⟩ := Oper.apart_spec (hap k List.mem_cons_self ok h1)
    obtain ⟨n, g, vf, g1, g2⟩ := mk_take hsel hm r _ (fun k' hk' => hap k' (List.mem_cons_of_mem _ hk')) h3
    refine ⟨n, g, vf, (StrongM.put (fun cs b => hsel m om cs b hm) p1).1 g1, fun b hb => ⟨ok, vk, h1, (StrongY.put (fun cs b => hsel k ok cs b h1) p3).2 h2, ?_⟩⟩
    rw [← Act.put_comm a vk _ p2]
    exact g2 b hb
def lf (L : Array Bool) (l : List Nat) : List Nat := l.filter fun k => !L.getD k true
theorem lf_split {R : Nat → Nat → Prop} {L : Array Bool} {l : List Nat} {i : Nat} (hn : l.Nodup) (hp : l.Pairwise R) (hi : i ∈ l) (hL : L.getD i true = false) :
    ∃ r1 r2, lf L l = r1 ++ i :: r2 ∧ lf (L.setIfInBounds i true) l = r1 ++ r2 ∧ ∀ k ∈ r1, R k i ∧ L.getD k true = false := by
  obtain ⟨s, t, rfl⟩ := List.append_of_mem hi
  obtain ⟨_, n2, n3⟩ := List.nodup_append.1 hn
  have n4 := (List.nodup_cons.1 n2).1
  obtain ⟨_, _, q3⟩ := List.pairwise_append.1 hp
  have hne : ∀ k, k ≠ i → (L.setIfInBounds i true).getD k true = L.getD k true := fun k hk => getD_set_ne true (Ne.symm hk)
  have hself : (L.setIfInBounds i true).getD i true = true := by
    unfold Array.getD
    split
    · simp
    · rfl
  refine ⟨s.filter fun k => !L.getD k true, t.filter fun k => !L.getD k true, ?_, ?_, ?_⟩
  · unfold lf
    rw [List.filter_append, List.filter_cons, if_pos (by simp [hL])]
  · unfold lf
    rw [List.filter_append, List.filter_cons, if_neg (by simp [hself])]
    congr 1
    · exact List.filter_congr fun k hk => by rw [hne k (n3 k hk i List.mem_cons_self)]
    · exact List.filter_congr fun k hk => by rw [hne k (fun e => n4 (e ▸ hk))]
  · intro k hk
    obtain ⟨hk1, hk2⟩ := List.mem_filter.1 hk
    exact ⟨q3 k hk1 i List.mem_cons_self, by simpa using hk2⟩
theorem lf_other {L : Array Bool} {l : List Nat} {i : Nat} (h : i ∉ l) : lf (L.setIfInBounds i true) l = lf L l :=
  List.filter_congr fun k hk => by rw [getD_set_ne true (fun e : i = k => h (by rw [e]; exact hk))]
theorem lf_nil {L : Array Bool} {l : List Nat} (h : ∀ k ∈ l, L.getD k true = true) : lf L l = [] :=
  List.filter_eq_nil_iff.2 fun k hk => by simp [h k hk]
theorem lf_all {L : Array Bool} {l : List Nat} (h : ∀ k ∈ l, L.getD k true = false) : lf L l = l :=
  List.filter_eq_self.2 fun k hk => by simp [h k hk]
def edgeB (ops : Array Oper) (k j : Nat) : Bool := match ops[j]?, ops[k]? with
  | some o, some ok => o.after.any (fun e => Region.binds .any e && e.on == k) || ok.apart ops o
  | _, _ => false
theorem edgeB_spec {k j : Nat} {o ok : Oper} (hj : ops[j]? = some o) (hk : ops[k]? = some ok) (h : edgeB ops k j = true) : (∃ e ∈ o.after, Region.binds .any e = true ∧ e.on = k) ∨ ok.apart ops o = true := by
  unfold edgeB at h
  rw [hj, hk] at h
  simp only [Bool.or_eq_true] at h
  rcases h with h2 | h2
  · obtain ⟨e, he, h3⟩ := Array.any_eq_true'.1 h2
    simp only [Bool.and_eq_true, beq_iff_eq] at h3
    exact .inl ⟨e, he, h3.1, h3.2⟩
  · exact .inr h2
def textB (ops : Array Oper) : Bool := Region.noSelect ops && (List.range ops.size).all fun j => match ops[j]? with
  | none => false
  | some o => o.after.all (fun e => !Region.binds .any e || decide (e.on < j))
theorem textB_spec (h : textB ops = true) : (∀ (j : Nat) (o : Oper) cs b, ops[j]? = some o → o.op ≠ .select cs b) ∧ ∀ j o, ops[j]? = some o → ∀ e ∈ o.after, Region.binds .any e = true → e.on < j := by
  unfold textB at h
  rw [Bool.and_eq_true] at h
  refine ⟨Region.noSelect_spec h.1, fun j o ho e he hb => ?_⟩
  have hj : j < ops.size := (Array.getElem?_eq_some_iff.1 ho).1
  have h1 := List.all_eq_true.1 h.2 j (List.mem_range.2 hj)
  rw [ho] at h1
  have := Array.all_eq_true'.1 h1 e he
  simpa [hb] using this
structure MixAt' (P : Program) (ops : Array Oper) (W : World) (Q : Exit → Act → World → Prop) (ql : List Nat) (m : Nat) (om : Oper) (ll : List Nat) (lops : List Oper) (L : Array Bool) (A : Act) (w : World) : Prop where
  size : L.size = ops.size
  closed : Closed ops L
  way : (L.getD m false = false ∧ (∀ i ∈ ll, L.getD i false = false) ∧ Ext W w ∧ wpS P ops W (MK P ops W Q om lops) (lf L ql) A) ∨
    (L.getD m false = true ∧ (∀ i ∈ ll, L.getD i false = false) ∧ ∃ b n g, Ext W w ∧ RowAt b n g w ∧ wpS P ops W (After P ops W Q lops b n g) (lf L ql) A) ∨
    (L.getD m false = true ∧ (∀ k ∈ ql, L.getD k false = true) ∧ ∃ l1 l2 lo2, ll = l1 ++ l2 ∧ (∀ k ∈ l1, L.getD k false = true) ∧ (∀ k ∈ l2, L.getD k false = false) ∧ l2.map (ops[·]?) = lo2.map some ∧ wpList P ops Q lo2 A w)
theorem StrongM.wpOp {i : Nat} {o : Oper} {n : Nat} {g vf : Nat → Value} {a : Act} {w : World} {K : Act → World → Prop} (hi : ops[i]? = some o) (hw : Ext W w) (hy : StrongM P ops W o n g vf a)
    (hK : ∀ w', Ext w w' → RowAt w.heap.size n g w' → K (a.put o.dst (vf w.heap.size)) w') : wpOp P ops Q i K a w := by
  obtain ⟨h1, h2⟩ := hy
  obtain ⟨C, t, h3, h4⟩ := h2 w hw
  unfold Go.wpOp
  rw [hi]
  simp only [h1, if_true]
  refine .inl ?_
  unfold Oper.wp
  rw [h3]
  simp only [Oper.upon]
  exact hK _ ((Below.refl _ _).alloc (Nat.le_refl _) _) (RowAt.newOf w n g t C h4)
theorem wp_region_mix {id : Nat} {a : Act} {w : World} (ql : List Nat) (m : Nat) (om : Oper) (ll : List Nat) (lops : List Oper) (hmo : P.follows .mixedOrders = true) (hB : textB ops = true) (hm : ops[m]? = some om) (hll : ll.map (ops[·]?) = lops.map some)
    (hnd : (ql ++ m :: ll).Nodup) (hcov : ∀ i, i < ops.size → i ∈ ql ++ m :: ll) (hin : ∀ i ∈ ql ++ m :: ll, i < ops.size) (hq : ql.Pairwise (fun k j => edgeB ops k j = true)) (hqm : ∀ k ∈ ql, edgeB ops k m = true)
    (hl1 : ∀ j ∈ ll, ∀ k ∈ ql ++ [m], waits ops ops.size j k = true) (hl2 : ll.Pairwise (fun k j => waits ops ops.size j k = true))
    (h : wpS P ops w.drew (MK P ops w.drew Q om lops) ql a) : (Code.region id ops true).wp P Q a w := by
  obtain ⟨hsel, htx⟩ := textB_spec hB
  obtain ⟨nq, nml, ndis⟩ := List.nodup_append.1 hnd
  obtain ⟨nm, nl⟩ := List.nodup_cons.1 nml
  have mq : m ∉ ql := fun e => ndis m e m List.mem_cons_self rfl
  have lq : ∀ i ∈ ll, i ∉ ql := fun i hi e => ndis i e i (List.mem_cons_of_mem _ hi) rfl
  refine wp_region_inv (I := MixAt' P ops w.drew Q ql m om ll lops) hmo ?h0 ?hs ?he
  case h0 =>
    have hf : ∀ k d, k < ops.size → (Array.replicate ops.size false).getD k d = false := fun k d hk => by unfold Array.getD; simp [hk]
    refine ⟨by simp, ?_, .inl ⟨hf m _ (hin m (by simp)), fun i hi => hf i _ (hin i (by simp [hi])), Ext.refl _, ?_⟩⟩
    · intro i o ho hi
      rw [hf i _ (Array.getElem?_eq_some_iff.1 ho).1] at hi
      cases hi
    · rw [lf_all fun k hk => hf k _ (hin k (by simp [hk]))]
      exact h
  case hs =>
    intro L A X i o hI ho hl hdeps
    have hil : i < ops.size := (Array.getElem?_eq_some_iff.1 ho).1
    have hiL : i < L.size := by rw [hI.size]; exact hil
    have hlf := getD_flip hl
    have hsize : (L.setIfInBounds i true).size = ops.size := by simp [hI.size]
    have hclosed := hI.closed.step ho hdeps
    have hap : ∀ k, edgeB ops k i = true → L.getD k true = false → ∀ ok, ops[k]? = some ok → ok.apart ops o = true := by
      intro k hed hk ok hok
      rcases edgeB_spec ho hok hed with ⟨e, he, hbe, rfl⟩ | h2
      · have h3 := hdeps e he hbe
        rw [getD_flip hk] at h3
        cases h3
      · exact h2
    have hwt : ∀ k, waits ops ops.size i k = true → L.getD k false = true := fun k hk => waits_listed hI.closed _ i k o ho hdeps hk
    have keep : ∀ k d, i ≠ k → (L.setIfInBounds i true).getD k d = L.getD k d := fun k d hk => getD_set_ne d hk
    have hfl : ∀ k, k < ops.size → L.getD k false = L.getD k true := fun k hk => getD_flip' (by rw [hI.size]; exact hk)
    rcases hI.way with ⟨w1, w2, hX, hw⟩ | ⟨w1, w2, b, n, g, hX, hR, hw⟩ | ⟨w1, w2, l1, l2, lo2, e1, e2, e3, e4, hw⟩
    · rcases List.mem_append.1 (hcov i hil) with hiq | hir
      · obtain ⟨r1, r2, s1, s2, s3⟩ := lf_split nq hq hiq hl
        rw [s1] at hw
        obtain ⟨v, hv, hr⟩ := wpS_take hsel ho r2 r1 A (fun k hk => hap k (s3 k hk).1 (s3 k hk).2) hw
        refine StrongY.wpOp ho hX hv fun w' hw' => ⟨hsize, hclosed, .inl ⟨?_, fun k hk => ?_, hX.trans hw', ?_⟩⟩
        · rw [keep m _ (fun e => mq (e ▸ hiq))]; exact w1
        · rw [keep k _ (fun e => lq k hk (e ▸ hiq))]; exact w2 k hk
        · rw [s2]; exact hr
      · rcases List.mem_cons.1 hir with rfl | hil2
        · rw [hm] at ho
          injection ho with ho
          subst ho
          obtain ⟨n, g, vf, g1, g2⟩ := mk_take hsel hm (lf L ql) A (fun k hk => by
            obtain ⟨k1, k2⟩ := List.mem_filter.1 hk
            exact hap k (hqm k k1) (by simpa using k2)) hw
          refine StrongM.wpOp hm hX g1 fun w' hw' hR => ⟨hsize, hclosed, .inr (.inl ⟨getD_same hiL, fun k hk => ?_, _, n, g, hX.trans hw', hR, ?_⟩)⟩
          · rw [keep k _ (fun e => nm (e ▸ hk))]; exact w2 k hk
          · rw [lf_other mq]
            exact g2 X.heap.size (Below.size hX)
        · have := hwt m (hl1 i hil2 m (by simp))
          rw [w1] at this
          cases this
    · rcases List.mem_append.1 (hcov i hil) with hiq | hir
      · obtain ⟨r1, r2, s1, s2, s3⟩ := lf_split nq hq hiq hl
        rw [s1] at hw
        obtain ⟨v, hv, hr⟩ := wpS_take hsel ho r2 r1 A (fun k hk => hap k (s3 k hk).1 (s3 k hk).2) hw
        refine StrongY.wpOp ho hX hv fun w' hw' => ⟨hsize, hclosed, .inr (.inl ⟨?_, fun k hk => ?_, b, n, g, hX.trans hw', hR.carry hw', ?_⟩)⟩
        · rw [keep m _ (fun e => mq (e ▸ hiq))]; exact w1
        · rw [keep k _ (fun e => lq k hk (e ▸ hiq))]; exact w2 k hk
        · rw [s2]; exact hr
      · rcases List.mem_cons.1 hir with rfl | hil2
        · rw [w1] at hlf; cases hlf
        · have hall : ∀ k ∈ ql, L.getD k false = true := fun k hk => hwt k (hl1 i hil2 k (by simp [hk]))
          rw [lf_nil fun k hk => by rw [← hfl k (hin k (by simp [hk]))]; exact hall k hk] at hw
          have hw2 : wpList P ops Q lops A X := hw X hX hR
          cases hll' : ll with
          | nil => rw [hll'] at hil2; cases hil2
          | cons j l2 =>
            have hij : i = j := by
              rw [hll'] at hil2 hl2
              rcases List.mem_cons.1 hil2 with rfl | h2
              · rfl
              · have := hwt j ((List.pairwise_cons.1 hl2).1 i h2)
                rw [w2 j (by rw [hll']; exact List.mem_cons_self)] at this
                cases this
            subst hij
            rw [hll'] at hll nl
            cases lops with
            | nil => simp at hll
            | cons o' lo2 =>
              simp only [List.map_cons, List.cons.injEq] at hll
              rw [ho] at hll
              obtain ⟨ho', hrest⟩ := hll
              injection ho' with ho'
              subst ho'
              refine wpOp_of_list ho hw2 fun a' w' hh => ⟨hsize, hclosed, .inr (.inr ⟨?_, fun k hk => ?_, [i], l2, lo2, rfl, fun k hk => ?_, fun k hk => ?_, hrest, hh⟩)⟩
              · rw [keep m _ (fun e => nm (by rw [hll', ← e]; exact List.mem_cons_self))]; exact w1
              · rw [keep k _ (fun e => lq i (by rw [hll']; exact List.mem_cons_self) (e ▸ hk))]; exact hall k hk
              · obtain rfl : k = i := by simpa using hk
                exact getD_same hiL
              · rw [keep k _ (fun e => (List.nodup_cons.1 nl).1 (e ▸ hk))]
                exact w2 k (by rw [hll']; exact List.mem_cons_of_mem _ hk)
    · rcases List.mem_append.1 (hcov i hil) with hiq | hir
      · rw [w2 i hiq] at hlf; cases hlf
      · rcases List.mem_cons.1 hir with rfl | hil2
        · rw [w1] at hlf; cases hlf
        · have hi2 : i ∈ l2 := by
            rw [e1] at hil2
            rcases List.mem_append.1 hil2 with h2 | h2
            · rw [e2 i h2] at hlf; cases hlf
            · exact h2
          cases l2 with
          | nil => cases hi2
          | cons j l3 =>
            have hl2' := hl2
            have nl' := nl
            rw [e1] at hl2' nl'
            have hij : i = j := by
              rcases List.mem_cons.1 hi2 with rfl | h2
              · rfl
              · have := hwt j ((List.pairwise_cons.1 (List.pairwise_append.1 hl2').2.1).1 i h2)
                rw [e3 j List.mem_cons_self] at this
                cases this
            subst hij
            cases lo2 with
            | nil => simp at e4
            | cons o' lo3 =>
              simp only [List.map_cons, List.cons.injEq] at e4
              rw [ho] at e4
              obtain ⟨ho', hrest⟩ := e4
              injection ho' with ho'
              subst ho'
              obtain ⟨_, nl2, nl3⟩ := List.nodup_append.1 nl'
              refine wpOp_of_list ho hw fun a' w' hh => ⟨hsize, hclosed, .inr (.inr ⟨?_, fun k hk => ?_, l1 ++ [i], l3, lo3, by rw [e1]; simp, fun k hk => ?_, fun k hk => ?_, hrest, hh⟩)⟩
              · rw [keep m _ (fun e => nm (e ▸ hil2))]; exact w1
              · rw [keep k _ (fun e => lq i hil2 (e ▸ hk))]; exact w2 k hk
              · rcases List.mem_append.1 hk with h2 | h2
                · rw [keep k _ (fun e => nl3 k h2 i List.mem_cons_self e.symm)]; exact e2 k h2
                · obtain rfl : k = i := by simpa using h2
                  exact getD_same hiL
              · rw [keep k _ (fun e => (List.nodup_cons.1 nl2).1 (e ▸ hk))]
                exact e3 k (List.mem_cons_of_mem _ hk)
  case he =>
    intro L A X hI hr
    have hall : ∀ n k, k < n → k < ops.size → L.getD k false = true := by
      intro n
      induction n with
      | zero => intro k hk; omega
      | succ n ih =>
        intro k hk hkn
        cases hv : L.getD k false with
        | true => rfl
        | false =>
          exfalso
          have ho : ops[k]? = some ops[k] := Array.getElem?_eq_getElem hkn
          have hmem : k ∈ Region.ready .any ops L := mem_ready.2 ⟨by rw [← getD_flip' (by rw [hI.size]; omega)]; exact hv, ops[k], ho, fun e he hbe => ih e.on (by have := htx k _ ho e he hbe; omega) (by have := htx k _ ho e he hbe; omega)⟩
          rw [hr] at hmem
          cases hmem
    have hk : ∀ k, k < ops.size → L.getD k false = true := fun k hk => hall (k + 1) k (by omega) hk
    rcases hI.way with ⟨w1, w2, hX, hw⟩ | ⟨w1, w2, b, n, g, hX, hR, hw⟩ | ⟨w1, w2, l1, l2, lo2, e1, e2, e3, e4, hw⟩
    · rw [hk m (hin m (by simp))] at w1; cases w1
    · rw [lf_nil fun k hk2 => by rw [← getD_flip' (by rw [hI.size]; exact hin k (by simp [hk2]))]; exact hk k (hin k (by simp [hk2]))] at hw
      have hw2 : wpList P ops Q lops A X := hw X hX hR
      cases hll' : ll with
      | nil =>
        rw [hll'] at hll
        have : lops = [] := by cases lops with | nil => rfl | cons _ _ => simp at hll
        rw [this] at hw2
        exact hw2
      | cons j l2 =>
        have := w2 j (by rw [hll']; exact List.mem_cons_self)
        rw [hk j (hin j (by rw [hll']; simp))] at this
        cases this
    · cases l2 with
      | nil =>
        have : lo2 = [] := by cases lo2 with | nil => rfl | cons _ _ => simp at e4
        rw [this] at hw
        exact hw
      | cons j l3 =>
        have := e3 j List.mem_cons_self
        rw [hk j (hin j (by rw [e1]; simp))] at this
        cases this
/-- the walk over the quiet operations, written out -/
theorem wpS_of_list {E : Act → Prop} : ∀ (l : List Nat) (lo : List Oper) (a : Act), l.map (ops[·]?) = lo.map some → wpStrong P ops W E lo a → wpS P ops W E l a
  | [], lo, a, hl, h => by
    cases lo with
    | nil => exact h
    | cons _ _ => simp at hl
  | i :: l, lo, a, hl, h => by
    cases lo with
    | nil => simp at hl
    | cons o lo =>
      simp only [List.map_cons, List.cons.injEq] at hl
      obtain ⟨v, h1, h2⟩ := h
      exact ⟨o, v, hl.1, h1, wpS_of_list l lo _ hl.2 h2⟩
end
end Go.Proofs.YtenlokmoijeehaaDoor
namespace Go.Proofs.YtenlokmoijeehaaDoor
open Go.RowKit Go.BigFrame
def wv (f : Nat → BitVec 32) : Nat → Value := fun j => .int .u32 ((f j).toNat : Int)
def yv (f : Nat → BitVec 8) : Nat → Value := fun j => .int .u8 ((f j).toNat : Int)
/-- a word turned to the right -/
def rR (n : Nat) (a : BitVec 32) : BitVec 32 := a >>> n ||| a <<< (32 - n)
theorem below_drewN (w : World) : ∀ n, Below w.heap.size w (w.drewN n)
  | 0 => Below.refl _ _
  | n + 1 => (below_drewN w n).drew
theorem rot_nat (a : BitVec 32) (n : Nat) : bits .or .u32 (((a.toNat * 2 ^ (32 - n) % 4294967296 : Nat)) : Int) ((a.toNat / 2 ^ n : Nat) : Int) = ((rR n a).toNat : Int) := by
  have h1 : a.toNat / 2 ^ n < 4294967296 := Nat.lt_of_le_of_lt (Nat.div_le_self _ _) a.isLt
  rw [u32_or_nat _ _ (Nat.mod_lt _ (by decide)) h1]
  unfold rR
  rw [BitVec.toNat_or, BitVec.toNat_ushiftRight, BitVec.toNat_shiftLeft, Nat.shiftLeft_eq, Nat.shiftRight_eq_div_pow, Nat.or_comm]
theorem rot_nat' (a : BitVec 32) (n : Nat) : bits .or .u32 ((a.toNat / 2 ^ n : Nat) : Int) (((a.toNat * 2 ^ (32 - n) % 4294967296 : Nat)) : Int) = ((rR n a).toNat : Int) := by
  have h1 : a.toNat / 2 ^ n < 4294967296 := Nat.lt_of_le_of_lt (Nat.div_le_self _ _) a.isLt
  rw [u32_or_nat _ _ h1 (Nat.mod_lt _ (by decide))]
  unfold rR
  rw [BitVec.toNat_or, BitVec.toNat_ushiftRight, BitVec.toNat_shiftLeft, Nat.shiftLeft_eq, Nat.shiftRight_eq_div_pow]
set_option maxHeartbeats 1000000 in
theorem rot_any (a : BitVec 32) (n : Nat) (hn : n = 2 ∨ n = 6 ∨ n = 7 ∨ n = 11 ∨ n = 13 ∨ n = 17 ∨ n = 18 ∨ n = 19 ∨ n = 22 ∨ n = 25) (w : World) :
    Calls Tryd.prog 69 #[.int .u32 (a.toNat : Int), .int .i64 (-(n : Int))] w fun e w' => e = .returned (.int .u32 ((rR n a).toNat:Int)) ∧ w' = w := by
  have ha := a.isLt
  have e2 : bits BinOp.and IntKind.u64 (IntKind.u64.wrap (-2)) 31 = 30 := by decide +kernel
  have e6 : bits BinOp.and IntKind.u64 (IntKind.u64.wrap (-6)) 31 = 26 := by decide +kernel
  have e7 : bits BinOp.and IntKind.u64 (IntKind.u64.wrap (-7)) 31 = 25 := by decide +kernel
  have e11 : bits BinOp.and IntKind.u64 (IntKind.u64.wrap (-11)) 31 = 21 := by decide +kernel
  have e13 : bits BinOp.and IntKind.u64 (IntKind.u64.wrap (-13)) 31 = 19 := by decide +kernel
  have e17 : bits BinOp.and IntKind.u64 (IntKind.u64.wrap (-17)) 31 = 15 := by decide +kernel
  have e18 : bits BinOp.and IntKind.u64 (IntKind.u64.wrap (-18)) 31 = 14 := by decide +kernel
  have e19 : bits BinOp.and IntKind.u64 (IntKind.u64.wrap (-19)) 31 = 13 := by decide +kernel
  have e22 : bits BinOp.and IntKind.u64 (IntKind.u64.wrap (-22)) 31 = 10 := by decide +kernel
  have e25 : bits BinOp.and IntKind.u64 (IntKind.u64.wrap (-25)) 31 = 7 := by decide +kernel
  have r2 : bits .or .u32 ((a.toNat : Int) * 1073741824 % 4294967296) ((a.toNat : Int) / 4) = ((rR 2 a).toNat : Int) := rot_nat a 2
  have r6 : bits .or .u32 ((a.toNat : Int) * 67108864 % 4294967296) ((a.toNat : Int) / 64) = ((rR 6 a).toNat : Int) := rot_nat a 6
  have r7 : bits .or .u32 ((a.toNat : Int) * 33554432 % 4294967296) ((a.toNat : Int) / 128) = ((rR 7 a).toNat : Int) := rot_nat a 7
  have r11 : bits .or .u32 ((a.toNat : Int) * 2097152 % 4294967296) ((a.toNat : Int) / 2048) = ((rR 11 a).toNat : Int) := rot_nat a 11
  have r13 : bits .or .u32 ((a.toNat : Int) * 524288 % 4294967296) ((a.toNat : Int) / 8192) = ((rR 13 a).toNat : Int) := rot_nat a 13
  have r17 : bits .or .u32 ((a.toNat : Int) * 32768 % 4294967296) ((a.toNat : Int) / 131072) = ((rR 17 a).toNat : Int) := rot_nat a 17
  have r18 : bits .or .u32 ((a.toNat : Int) * 16384 % 4294967296) ((a.toNat : Int) / 262144) = ((rR 18 a).toNat : Int) := rot_nat a 18
  have r19 : bits .or .u32 ((a.toNat : Int) * 8192 % 4294967296) ((a.toNat : Int) / 524288) = ((rR 19 a).toNat : Int) := rot_nat a 19
  have r22 : bits .or .u32 ((a.toNat : Int) * 1024 % 4294967296) ((a.toNat : Int) / 4194304) = ((rR 22 a).toNat : Int) := rot_nat a 22
  have r25 : bits .or .u32 ((a.toNat : Int) * 128 % 4294967296) ((a.toNat : Int) / 33554432) = ((rR 25 a).toNat : Int) := rot_nat a 25
  replace r2 := hideit r2
  replace r6 := hideit r6
  replace r7 := hideit r7
  replace r11 := hideit r11
  replace r13 := hideit r13
  replace r17 := hideit r17
  replace r18 := hideit r18
  replace r19 := hideit r19
  replace r22 := hideit r22
  replace r25 := hideit r25
  rcases hn with rfl | rfl | rfl | rfl | rfl | rfl | rfl | rfl | rfl | rfl
  · go_enter Tryd.func69, Tryd.ntmps69
    go_wp2
    go_ret
    exact ⟨ret_int r2.out, rfl⟩
  · go_enter Tryd.func69, Tryd.ntmps69
    go_wp2
    go_ret
    exact ⟨ret_int r6.out, rfl⟩
  · go_enter Tryd.func69, Tryd.ntmps69
    go_wp2
    go_ret
    exact ⟨ret_int r7.out, rfl⟩
  · go_enter Tryd.func69, Tryd.ntmps69
    go_wp2
    go_ret
    exact ⟨ret_int r11.out, rfl⟩
  · go_enter Tryd.func69, Tryd.ntmps69
    go_wp2
    go_ret
    exact ⟨ret_int r13.out, rfl⟩
  · go_enter Tryd.func69, Tryd.ntmps69
    go_wp2
    go_ret
    exact ⟨ret_int r17.out, rfl⟩
  · go_enter Tryd.func69, Tryd.ntmps69
    go_wp2
    go_ret
    exact ⟨ret_int r18.out, rfl⟩
  · go_enter Tryd.func69, Tryd.ntmps69
    go_wp2
    go_ret
    exact ⟨ret_int r19.out, rfl⟩
  · go_enter Tryd.func69, Tryd.ntmps69
    go_wp2
    go_ret
    exact ⟨ret_int r22.out, rfl⟩
  · go_enter Tryd.func69, Tryd.ntmps69
    go_wp2
    go_ret
    exact ⟨ret_int r25.out, rfl⟩
set_option maxHeartbeats 1000000 in
theorem right_any (a : BitVec 32) (n : Nat) (hn : n = 2 ∨ n = 6 ∨ n = 7 ∨ n = 11 ∨ n = 13 ∨ n = 17 ∨ n = 18 ∨ n = 19 ∨ n = 22 ∨ n = 25) (w : World) :
    Calls Tryd.prog 68 #[.int .i64 (n : Int), .int .u32 (a.toNat : Int)] w fun e w' => e = .returned (.int .u32 ((rR n a).toNat:Int)) ∧ w' = w := by
  have n0 : (0 : Int) ≤ (n : Int) := by omega
  have n1 : (n : Int) ≤ 25 := by omega
  go_enter Tryd.func68, Tryd.ntmps68
  go_wp2_with (go_at_call 69; refine (rot_any a n hn _).mono ?_; rintro e w' ⟨rfl, rfl⟩)
  go_ret
  exact ⟨rfl, rfl⟩
set_option maxHeartbeats 1000000 in
theorem turn_any (a : BitVec 32) (n : Nat) (hn : n = 2 ∨ n = 6 ∨ n = 7 ∨ n = 11 ∨ n = 13 ∨ n = 17 ∨ n = 18 ∨ n = 19 ∨ n = 22 ∨ n = 25) (w : World) :
    Calls Tryd.prog 64 #[.int .i64 (n : Int), .int .u32 (a.toNat : Int)] w fun e w' => e = .returned (.int .u32 ((rR n a).toNat:Int)) ∧ Below w.heap.size w w' := by
  have ha := a.isLt
  have r2 : bits .or .u32 ((a.toNat : Int) / 4) ((a.toNat : Int) * 1073741824 % 4294967296) = ((rR 2 a).toNat : Int) := rot_nat' a 2
  have r6 : bits .or .u32 ((a.toNat : Int) / 64) ((a.toNat : Int) * 67108864 % 4294967296) = ((rR 6 a).toNat : Int) := rot_nat' a 6
  have r7 : bits .or .u32 ((a.toNat : Int) / 128) ((a.toNat : Int) * 33554432 % 4294967296) = ((rR 7 a).toNat : Int) := rot_nat' a 7
  have r11 : bits .or .u32 ((a.toNat : Int) / 2048) ((a.toNat : Int) * 2097152 % 4294967296) = ((rR 11 a).toNat : Int) := rot_nat' a 11
  have r13 : bits .or .u32 ((a.toNat : Int) / 8192) ((a.toNat : Int) * 524288 % 4294967296) = ((rR 13 a).toNat : Int) := rot_nat' a 13
  have r17 : bits .or .u32 ((a.toNat : Int) / 131072) ((a.toNat : Int) * 32768 % 4294967296) = ((rR 17 a).toNat : Int) := rot_nat' a 17
  have r18 : bits .or .u32 ((a.toNat : Int) / 262144) ((a.toNat : Int) * 16384 % 4294967296) = ((rR 18 a).toNat : Int) := rot_nat' a 18
  have r19 : bits .or .u32 ((a.toNat : Int) / 524288) ((a.toNat : Int) * 8192 % 4294967296) = ((rR 19 a).toNat : Int) := rot_nat' a 19
  have r22 : bits .or .u32 ((a.toNat : Int) / 4194304) ((a.toNat : Int) * 1024 % 4294967296) = ((rR 22 a).toNat : Int) := rot_nat' a 22
  have r25 : bits .or .u32 ((a.toNat : Int) / 33554432) ((a.toNat : Int) * 128 % 4294967296) = ((rR 25 a).toNat : Int) := rot_nat' a 25
  replace r2 := hideit r2
  replace r6 := hideit r6
  replace r7 := hideit r7
  replace r11 := hideit r11
  replace r13 := hideit r13
  replace r17 := hideit r17
  replace r18 := hideit r18
  replace r19 := hideit r19
  replace r22 := hideit r22
  replace r25 := hideit r25
  rcases hn with rfl | rfl | rfl | rfl | rfl | rfl | rfl | rfl | rfl | rfl
  · go_enter Tryd.func64, Tryd.ntmps64
    go_wp2
    go_quiet (fail)
    go_wp2
    go_ret
    exact ⟨ret_int r2.out, below_drewN _ _⟩
  · go_enter Tryd.func64, Tryd.ntmps64
    go_wp2
    go_quiet (fail)
    go_wp2
    go_ret
    exact ⟨ret_int r6.out, below_drewN _ _⟩
  · go_enter Tryd.func64, Tryd.ntmps64
    go_wp2
    go_quiet (fail)
    go_wp2
    go_ret
    exact ⟨ret_int r7.out, below_drewN _ _⟩
  · go_enter Tryd.func64, Tryd.ntmps64
    go_wp2
    go_quiet (fail)
    go_wp2
    go_ret
    exact ⟨ret_int r11.out, below_drewN _ _⟩
  · go_enter Tryd.func64, Tryd.ntmps64
    go_wp2
    go_quiet (fail)
    go_wp2
    go_ret
    exact ⟨ret_int r13.out, below_drewN _ _⟩
  · go_enter Tryd.func64, Tryd.ntmps64
    go_wp2
    go_quiet (fail)
    go_wp2
    go_ret
    exact ⟨ret_int r17.out, below_drewN _ _⟩
  · go_enter Tryd.func64, Tryd.ntmps64
    go_wp2
    go_quiet (fail)
    go_wp2
    go_ret
    exact ⟨ret_int r18.out, below_drewN _ _⟩
  · go_enter Tryd.func64, Tryd.ntmps64
    go_wp2
    go_quiet (fail)
    go_wp2
    go_ret
    exact ⟨ret_int r19.out, below_drewN _ _⟩
  · go_enter Tryd.func64, Tryd.ntmps64
    go_wp2
    go_quiet (fail)
    go_wp2
    go_ret
    exact ⟨ret_int r22.out, below_drewN _ _⟩
  · go_enter Tryd.func64, Tryd.ntmps64
    go_wp2
    go_quiet (fail)
    go_wp2
    go_ret
    exact ⟨ret_int r25.out, below_drewN _ _⟩
theorem right2 (a : BitVec 32) (w : World) : Calls Tryd.prog 68 #[.int .i64 2, .int .u32 (a.toNat : Int)] w fun e w' => e = .returned (.int .u32 ((rR 2 a).toNat:Int)) ∧ w' = w := right_any a 2 (by omega) w
theorem turn2 (a : BitVec 32) (w : World) : Calls Tryd.prog 64 #[.int .i64 2, .int .u32 (a.toNat : Int)] w fun e w' => e = .returned (.int .u32 ((rR 2 a).toNat:Int)) ∧ Below w.heap.size w w' := turn_any a 2 (by omega) w
theorem right6 (a : BitVec 32) (w : World) : Calls Tryd.prog 68 #[.int .i64 6, .int .u32 (a.toNat : Int)] w fun e w' => e = .returned (.int .u32 ((rR 6 a).toNat:Int)) ∧ w' = w := right_any a 6 (by omega) w
theorem turn6 (a : BitVec 32) (w : World) : Calls Tryd.prog 64 #[.int .i64 6, .int .u32 (a.toNat : Int)] w fun e w' => e = .returned (.int .u32 ((rR 6 a).toNat:Int)) ∧ Below w.heap.size w w' := turn_any a 6 (by omega) w
theorem right7 (a : BitVec 32) (w : World) : Calls Tryd.prog 68 #[.int .i64 7, .int .u32 (a.toNat : Int)] w fun e w' => e = .returned (.int .u32 ((rR 7 a).toNat:Int)) ∧ w' = w := right_any a 7 (by omega) w
theorem turn7 (a : BitVec 32) (w : World) : Calls Tryd.prog 64 #[.int .i64 7, .int .u32 (a.toNat : Int)] w fun e w' => e = .returned (.int .u32 ((rR 7 a).toNat:Int)) ∧ Below w.heap.size w w' := turn_any a 7 (by omega) w
theorem right11 (a : BitVec 32) (w : World) : Calls Tryd.prog 68 #[.int .i64 11, .int .u32 (a.toNat : Int)] w fun e w' => e = .returned (.int .u32 ((rR 11 a).toNat:Int)) ∧ w' = w := right_any a 11 (by omega) w
theorem turn11 (a : BitVec 32) (w : World) : Calls Tryd.prog 64 #[.int .i64 11, .int .u32 (a.toNat : Int)] w fun e w' => e = .returned (.int .u32 ((rR 11 a).toNat:Int)) ∧ Below w.heap.size w w' := turn_any a 11 (by omega) w
theorem right13 (a : BitVec 32) (w : World) : Calls Tryd.prog 68 #[.int .i64 13, .int .u32 (a.toNat : Int)] w fun e w' => e = .returned (.int .u32 ((rR 13 a).toNat:Int)) ∧ w' = w := right_any a 13 (by omega) w
theorem turn13 (a : BitVec 32) (w : World) : Calls Tryd.prog 64 #[.int .i64 13, .int .u32 (a.toNat : Int)] w fun e w' => e = .returned (.int .u32 ((rR 13 a).toNat:Int)) ∧ Below w.heap.size w w' := turn_any a 13 (by omega) w
theorem right17 (a : BitVec 32) (w : World) : Calls Tryd.prog 68 #[.int .i64 17, .int .u32 (a.toNat : Int)] w fun e w' => e = .returned (.int .u32 ((rR 17 a).toNat:Int)) ∧ w' = w := right_any a 17 (by omega) w
theorem turn17 (a : BitVec 32) (w : World) : Calls Tryd.prog 64 #[.int .i64 17, .int .u32 (a.toNat : Int)] w fun e w' => e = .returned (.int .u32 ((rR 17 a).toNat:Int)) ∧ Below w.heap.size w w' := turn_any a 17 (by omega) w
theorem right18 (a : BitVec 32) (w : World) : Calls Tryd.prog 68 #[.int .i64 18, .int .u32 (a.toNat : Int)] w fun e w' => e = .returned (.int .u32 ((rR 18 a).toNat:Int)) ∧ w' = w := right_any a 18 (by omega) w
theorem turn18 (a : BitVec 32) (w : World) : Calls Tryd.prog 64 #[.int .i64 18, .int .u32 (a.toNat : Int)] w fun e w' => e = .returned (.int .u32 ((rR 18 a).toNat:Int)) ∧ Below w.heap.size w w' := turn_any a 18 (by omega) w
theorem right19 (a : BitVec 32) (w : World) : Calls Tryd.prog 68 #[.int .i64 19, .int .u32 (a.toNat : Int)] w fun e w' => e = .returned (.int .u32 ((rR 19 a).toNat:Int)) ∧ w' = w := right_any a 19 (by omega) w
theorem turn19 (a : BitVec 32) (w : World) : Calls Tryd.prog 64 #[.int .i64 19, .int .u32 (a.toNat : Int)] w fun e w' => e = .returned (.int .u32 ((rR 19 a).toNat:Int)) ∧ Below w.heap.size w w' := turn_any a 19 (by omega) w
theorem right22 (a : BitVec 32) (w : World) : Calls Tryd.prog 68 #[.int .i64 22, .int .u32 (a.toNat : Int)] w fun e w' => e = .returned (.int .u32 ((rR 22 a).toNat:Int)) ∧ w' = w := right_any a 22 (by omega) w
theorem turn22 (a : BitVec 32) (w : World) : Calls Tryd.prog 64 #[.int .i64 22, .int .u32 (a.toNat : Int)] w fun e w' => e = .returned (.int .u32 ((rR 22 a).toNat:Int)) ∧ Below w.heap.size w w' := turn_any a 22 (by omega) w
theorem right25 (a : BitVec 32) (w : World) : Calls Tryd.prog 68 #[.int .i64 25, .int .u32 (a.toNat : Int)] w fun e w' => e = .returned (.int .u32 ((rR 25 a).toNat:Int)) ∧ w' = w := right_any a 25 (by omega) w
theorem turn25 (a : BitVec 32) (w : World) : Calls Tryd.prog 64 #[.int .i64 25, .int .u32 (a.toNat : Int)] w fun e w' => e = .returned (.int .u32 ((rR 25 a).toNat:Int)) ∧ Below w.heap.size w w' := turn_any a 25 (by omega) w
end Go.Proofs.YtenlokmoijeehaaDoor
