/-
  Cg1, Cg2, Cgo.
-/
import Derived.Test.YtapmheocllicnaaDoorPlc
import Derived.Test.YtapmheocllicnaaDoorRh
import Derived.Test.YtapmheocllicnaaDoorBld
import Derived.Test.YtapmheocllicnaaDoorSst
import Derived.Test.YtapmheocllicnaaDoorOthM
namespace Go.Proofs.YtapmheocllicnaaDoor
open Go.RowKit Go.BigFrame Go.Shelf
attribute [local go_sem] Oper.semAt_some
/-- on the way up: the digest of the node ahead as it was, that of the changed one, and whether all stood -/
def gst (x : Nat) (bs : Nat → Nat → BitVec 8) (s : (Nat → BitVec 8) × (Nat → BitVec 8) × Prop) (j : Nat) : (Nat → BitVec 8) × (Nat → BitVec 8) × Prop :=
  (nodeF (BitVec.ofNat 8 j) (bs j) 512, nodeF (BitVec.ofNat 8 j) (putF (bs j) (plc x j) s.2.1) 512, s.2.2 ∧ (0 < j → ∀ t, t < 32 → bs j (32 * plc x j + t) = s.1 t))
def gL (leaf : Nat → BitVec 8) (x : Nat) (bs : Nat → Nat → BitVec 8) (l : List Nat) : (Nat → BitVec 8) × (Nat → BitVec 8) × Prop := l.foldl (gst x bs) (fun _ => 0#8, leaf, True)
theorem gL_snoc {k : Nat} (leaf : Nat → BitVec 8) (x : Nat) (bs : Nat → Nat → BitVec 8) (pre : List (Lev k)) (j : Lev k) : gL leaf x bs (upL (pre ++ [j])) = gst x bs (gL leaf x bs (upL pre)) j.1 := by
  unfold gL upL
  rw [List.map_append, List.foldl_append]
  rfl
theorem gst_mono (x : Nat) (bs : Nat → Nat → BitVec 8) : ∀ (l : List Nat) (s : (Nat → BitVec 8) × (Nat → BitVec 8) × Prop), (l.foldl (gst x bs) s).2.2 → s.2.2
  | [], _, h => h
  | _ :: l, _, h => (gst_mono x bs l _ h).1
theorem gL_prefix {leaf : Nat → BitVec 8} {x : Nat} {bs : Nat → Nat → BitVec 8} {l l' : List Nat} (h : l <+: l') (hl : ¬ (gL leaf x bs l).2.2) : ¬ (gL leaf x bs l').2.2 := by
  obtain ⟨r, rfl⟩ := h
  unfold gL at *
  rw [List.foldl_append]
  exact fun h => hl (gst_mono x bs r _ h)
/-- what the changed nodes hold -/
def ctL (leaf : Nat → BitVec 8) (x : Nat) (bs : Nat → Nat → BitVec 8) (l : List Nat) (i : Nat) : Nat → BitVec 8 := putF (bs (l.getD i 0)) (plc x (l.getD i 0)) (gL leaf x bs (l.take i)).2.1
theorem ctL_old (leaf : Nat → BitVec 8) (x : Nat) (bs : Nat → Nat → BitVec 8) (l : List Nat) (j i : Nat) (hi : i < l.length) : ctL leaf x bs (l ++ [j]) i = ctL leaf x bs l i := by
  unfold ctL
  rw [List.take_append_of_le_length (by omega), List.getD_eq_getElem?_getD, List.getD_eq_getElem?_getD, List.getElem?_append_left hi]
theorem ctL_new (leaf : Nat → BitVec 8) (x : Nat) (bs : Nat → Nat → BitVec 8) (l : List Nat) (j : Nat) : ctL leaf x bs (l ++ [j]) l.length = putF (bs j) (plc x j) (gL leaf x bs l).2.1 := by
  unfold ctL
  rw [List.take_left' rfl, List.getD_eq_getElem?_getD, List.getElem?_append_right (Nat.le_refl _), Nat.sub_self]
  rfl
def chV (nb nc : Nat → Nat) (i : Nat) : Value := .slice (some ⟨nb i, 0, none⟩) 512 (nc i)
/-- how a Change stands on its way -/
structure GI (w : World) (cA k : Nat) (pa : Addr) (cap : Nat) (q : Nat) (bef aft : Nat → BitVec 8) (cv : Value) (nb nc : Nat → Nat) (ct : Nat → Nat → BitVec 8) (W : World) : Prop where
  lt : w.heap.size + 5 ≤ cA
  ext : Ext w W
  path : RowAt (w.heap.size + 1) 1 (fun _ => .slice (some pa) k cap) W
  r1 : RowAt (w.heap.size + 2) 1 (fun _ => .slice none 0 0) W
  r2 : RowAt (w.heap.size + 3) 32 (yv fun _ => 0#8) W
  r3 : RowAt (w.heap.size + 4) 1 (fun _ => .int .i64 0) W
  box : RowAt cA 1 (fun _ => cv) W
  bf : RowAt (cA + 1) 32 (yv bef) W
  af : RowAt (cA + 2) 32 (yv aft) W
  own : OwnB (cA + 3) 23 cv q (chV nb nc) W
  nil : q = 0 → cv = .slice none 0 0
  nodes : ∀ i, i < q → cA + 3 ≤ nb i ∧ 512 ≤ nc i ∧ RowAt (nb i) 512 (yv (ct i)) W
section
variable {w : World} {cA k : Nat} {pa : Addr} {cap q : Nat} {bef aft : Nat → BitVec 8} {cv : Value} {nb nc : Nat → Nat} {ct : Nat → Nat → BitVec 8} {W Y : World}
theorem GI.carry (h : GI w cA k pa cap q bef aft cv nb nc ct W) (e : Ext W Y) : GI w cA k pa cap q bef aft cv nb nc ct Y :=
  ⟨h.lt, Ext.trans h.ext e, h.path.carry e, h.r1.carry e, h.r2.carry e, h.r3.carry e, h.box.carry e, h.bf.carry e, h.af.carry e, h.own.ext e, h.nil, fun i hi => ⟨(h.nodes i hi).1, (h.nodes i hi).2.1, (h.nodes i hi).2.2.carry e⟩⟩
theorem OwnB.own {base : Nat} {e : TypeId} {v : Value} {n : Nat} {g : Nat → Value} {r : Option Nat} (h : OwnB base e v n g W) (h0 : n = 0 → v = .slice none 0 0) (hg : W.grownBy Y r) (hr : ∀ k, r = some k → ∃ o : Obj, W.heap[k]? = some o ∧ o.isCells = false) : OwnB base e v n g Y := by
  refine h.kept hg ?_
  rcases (by omega : n = 0 ∨ 0 < n) with hn | hn
  · rw [h0 hn]
    exact .inl rfl
  · obtain ⟨b, cap, rfl, _, _, _, hR⟩ := h.lies hn
    right
    intro e
    obtain ⟨o, ho, hc⟩ := hr b e.symm
    obtain ⟨o', ho', hc'⟩ := cells_of_cell (hR.1 0 hn)
    rw [ho] at ho'
    cases ho'
    rw [hc] at hc'
    cases hc'
theorem GI.ownG {r : Option Nat} (h : GI w cA k pa cap q bef aft cv nb nc ct W) (hg : W.grownBy Y r) (hr : ∀ k, r = some k → w.heap.size ≤ k ∧ ∃ o : Obj, W.heap[k]? = some o ∧ o.isCells = false) : GI w cA k pa cap q bef aft cv nb nc ct Y :=
  have h2 := fun k e => (hr k e).2
  ⟨h.lt, Below.grown h.ext hg (Below.size h.ext) fun k e => (hr k e).1, h.path.own hg h2, h.r1.own hg h2, h.r2.own hg h2, h.r3.own hg h2, h.box.own hg h2, h.bf.own hg h2, h.af.own hg h2, h.own.own h.nil hg h2, h.nil, fun i hi => ⟨(h.nodes i hi).1, (h.nodes i hi).2.1, (h.nodes i hi).2.2.own hg h2⟩⟩
/-- one of its rows is set: all the others stand -/
theorem GI.but {c : Nat} (h : GI w cA k pa cap q bef aft cv nb nc ct W) (hB : But c W Y) (hc : cA + 3 ≤ c) (hn : ∀ i, i < q → nb i ≠ c) (ho : cv.ownBlock ≠ some c) : GI w cA k pa cap q bef aft cv nb nc ct Y :=
  have hl := h.lt
  ⟨h.lt, Ext.but h.ext hB (by omega), h.path.but hB (by omega), h.r1.but hB (by omega), h.r2.but hB (by omega), h.r3.but hB (by omega), h.box.but hB (by omega), h.bf.but hB (by omega), h.af.but hB (by omega), h.own.but hB ho, h.nil, fun i hi => ⟨(h.nodes i hi).1, (h.nodes i hi).2.1, (h.nodes i hi).2.2.but hB (hn i hi)⟩⟩
theorem GI.setBf (h : GI w cA k pa cap q bef aft cv nb nc ct W) (b' : Nat → BitVec 8) : GI w cA k pa cap q b' aft cv nb nc ct (W.setCells (cA + 1) 0 (row 32 (yv b'))) :=
  have hl := h.lt
  ⟨h.lt, below_setCells _ (by omega) _ _ _ h.ext, h.path.cellsOther (by omega) _ _, h.r1.cellsOther (by omega) _ _, h.r2.cellsOther (by omega) _ _, h.r3.cellsOther (by omega) _ _, h.box.cellsOther (by omega) _ _, h.bf.cells, h.af.cellsOther (by omega) _ _, h.own.but (But.sets _ _ _ (But.refl _ _)) (fun e => by have := (h.own.lt _ e).1; omega), h.nil, fun i hi => ⟨(h.nodes i hi).1, (h.nodes i hi).2.1, (h.nodes i hi).2.2.cellsOther (by have := (h.nodes i hi).1; omega) _ _⟩⟩
theorem GI.setAf (h : GI w cA k pa cap q bef aft cv nb nc ct W) (b' : Nat → BitVec 8) : GI w cA k pa cap q bef b' cv nb nc ct (W.setCells (cA + 2) 0 (row 32 (yv b'))) :=
  have hl := h.lt
  ⟨h.lt, below_setCells _ (by omega) _ _ _ h.ext, h.path.cellsOther (by omega) _ _, h.r1.cellsOther (by omega) _ _, h.r2.cellsOther (by omega) _ _, h.r3.cellsOther (by omega) _ _, h.box.cellsOther (by omega) _ _, h.bf.cellsOther (by omega) _ _, h.af.cells, h.own.but (But.sets _ _ _ (But.refl _ _)) (fun e => by have := (h.own.lt _ e).1; omega), h.nil, fun i hi => ⟨(h.nodes i hi).1, (h.nodes i hi).2.1, (h.nodes i hi).2.2.cellsOther (by have := (h.nodes i hi).1; omega) _ _⟩⟩
/-- a node more: the list has grown, and lies in its box again -/
theorem GI.grow {b c : Nat} {nd : Nat → BitVec 8} {v' : Value} (h : GI w cA k pa cap q bef aft cv nb nc ct W) (hk : k ≤ 3) (hq : q < 100) (hb : cA + 3 ≤ b) (hc : 512 ≤ c) (hR : RowAt b 512 (yv nd) W) (hg : W.grownBy Y cv.ownBlock)
    (hO : OwnB (cA + 3) 23 v' (q + 1) (chV (fun i => if i = q then b else nb i) (fun i => if i = q then c else nc i)) Y) :
    GI w cA k pa cap (q + 1) bef aft v' (fun i => if i = q then b else nb i) (fun i => if i = q then c else nc i) (fun i => if i = q then nd else ct i) (Y.setCell ⟨cA, 0, none⟩ v') := by
  have hl := h.lt
  have g0 : ∀ (b m : Nat) (f : Nat → Value), RowAt b m f W → 0 < m → (∀ A c, f 0 ≠ .slice (some A) 512 c) → RowAt b m f Y := fun b m f hr hm hne =>
    hr.grown hg (own_ne h.own h.nil hr hm (fun e => hne ⟨nb 0, 0, none⟩ (nc 0) (by rw [← e]; rfl)))
  have hcv : ∀ A c, cv ≠ .slice (some A) 512 c := fun A c e => by
    rcases (by omega : q = 0 ∨ 0 < q) with h0 | h0
    · rw [h.nil h0] at e; cases e
    · obtain ⟨b', c', e', _⟩ := h.own.lies h0
      rw [e'] at e
      injection e with _ e _
      omega
  have o : ∀ (b m : Nat) (f : Nat → Value), RowAt b m f Y → b ≠ cA → RowAt b m f (Y.setCell ⟨cA, 0, none⟩ v') := fun b m f hr hne => hr.other _ _ (Ne.symm hne)
  have i1 : ∀ (z : Int) (A : Addr) (c : Nat), Value.int .i64 z ≠ .slice (some A) 512 c := fun _ _ _ e => by cases e
  refine ⟨hl, ?_, o _ _ _ (g0 _ _ _ h.path (by decide) (fun A c e => by injection e with _ e _; omega)) (by omega), o _ _ _ (g0 _ _ _ h.r1 (by decide) (fun A c e => by cases e)) (by omega), o _ _ _ (g0 _ _ _ h.r2 (by decide) (fun A c e => by cases e)) (by omega), o _ _ _ (g0 _ _ _ h.r3 (by decide) (i1 0)) (by omega), ?_, o _ _ _ (g0 _ _ _ h.bf (by decide) (fun A c e => by cases e)) (by omega), o _ _ _ (g0 _ _ _ h.af (by decide) (fun A c e => by cases e)) (by omega), ?_, fun e => absurd e (by omega), fun i hi => ?_⟩
  · exact Below.setCell (p := ⟨cA, 0, none⟩) (grownE h.ext h.own (by omega) hg) (by show w.heap.size ≤ cA; omega) _
  · exact ((g0 _ _ _ h.box (by decide) hcv).set 0 v').congr fun t ht => by rw [if_pos (by omega)]
  · exact hO.other ⟨cA, 0, none⟩ (fun e => by have h9 : cA + 3 ≤ cA := (hO.lt _ e).1; omega) _
  · by_cases e : i = q
    · subst e
      simp only [if_true]
      exact ⟨hb, hc, o _ _ _ (g0 _ _ _ hR (by decide) (fun A c e => by cases e)) (by omega)⟩
    · simp only [e, if_false]
      have hn := h.nodes i (by omega)
      exact ⟨hn.1, hn.2.1, o _ _ _ (g0 _ _ _ hn.2.2 (by decide) (fun A c e => by cases e)) (by omega)⟩
end
theorem own_cells {base : Nat} {e : TypeId} {v : Value} {n : Nat} {g : Nat → Value} {W : World} (h : OwnB base e v n g W) : ∀ (j : Nat) (o : Obj), v.ownBlock = some j → W.heap[j]? = some o → o.isCells = true := fun j o hj ho => by
  obtain ⟨_, h⟩ := h
  rcases h with ⟨rfl, _⟩ | ⟨b, cap, cur, rfl, _, hb, _⟩
  · cases hj
  · injection hj with hj
    subst hj
    rw [hb] at ho
    cases ho
    rfl
theorem chg_mem (w : World) (leaf : Nat → BitVec 8) (pv : Value) : RowAt w.heap.size 32 (yv leaf) (((((w.alloc (.cells (row 32 (yv leaf)).toArray 25)).alloc (.cells #[pv] 33)).alloc (.cells #[.slice none 0 0] 33)).alloc (.cells (row 32 (yv fun _ => 0#8)).toArray 25)).alloc (.cells #[.int .i64 0] 26)) ∧ RowAt (w.heap.size + 1) 1 (fun _ => pv) (((((w.alloc (.cells (row 32 (yv leaf)).toArray 25)).alloc (.cells #[pv] 33)).alloc (.cells #[.slice none 0 0] 33)).alloc (.cells (row 32 (yv fun _ => 0#8)).toArray 25)).alloc (.cells #[.int .i64 0] 26)) ∧ RowAt (w.heap.size + 2) 1 (fun _ => .slice none 0 0) (((((w.alloc (.cells (row 32 (yv leaf)).toArray 25)).alloc (.cells #[pv] 33)).alloc (.cells #[.slice none 0 0] 33)).alloc (.cells (row 32 (yv fun _ => 0#8)).toArray 25)).alloc (.cells #[.int .i64 0] 26)) ∧ RowAt (w.heap.size + 3) 32 (yv fun _ => 0#8) (((((w.alloc (.cells (row 32 (yv leaf)).toArray 25)).alloc (.cells #[pv] 33)).alloc (.cells #[.slice none 0 0] 33)).alloc (.cells (row 32 (yv fun _ => 0#8)).toArray 25)).alloc (.cells #[.int .i64 0] 26)) ∧ RowAt (w.heap.size + 4) 1 (fun _ => .int .i64 0) (((((w.alloc (.cells (row 32 (yv leaf)).toArray 25)).alloc (.cells #[pv] 33)).alloc (.cells #[.slice none 0 0] 33)).alloc (.cells (row 32 (yv fun _ => 0#8)).toArray 25)).alloc (.cells #[.int .i64 0] 26)) ∧ Ext w (((((w.alloc (.cells (row 32 (yv leaf)).toArray 25)).alloc (.cells #[pv] 33)).alloc (.cells #[.slice none 0 0] 33)).alloc (.cells (row 32 (yv fun _ => 0#8)).toArray 25)).alloc (.cells #[.int .i64 0] 26)) ∧ (((((w.alloc (.cells (row 32 (yv leaf)).toArray 25)).alloc (.cells #[pv] 33)).alloc (.cells #[.slice none 0 0] 33)).alloc (.cells (row 32 (yv fun _ => 0#8)).toArray 25)).alloc (.cells #[.int .i64 0] 26)).heap.size = w.heap.size + 5 := by
  have one : ∀ (W : World) (u : Value) (t : TypeId), RowAt W.heap.size 1 (fun _ => u) (W.alloc (.cells #[u] t)) := fun W u t => RowAt.newOf W 1 _ t #[u] (fun j hj => by
    have : j = 0 := by omega
    subst this
    rfl)
  have h1 := RowAt.new w 32 (yv leaf) 25
  have h2 := one (w.alloc (.cells (row 32 (yv leaf)).toArray 25)) pv 33
  have h3 := one ((w.alloc (.cells (row 32 (yv leaf)).toArray 25)).alloc (.cells #[pv] 33)) (.slice none 0 0) 33
  have h4 := RowAt.new (((w.alloc (.cells (row 32 (yv leaf)).toArray 25)).alloc (.cells #[pv] 33)).alloc (.cells #[.slice none 0 0] 33)) 32 (yv fun _ => 0#8) 25
  have h5 := one ((((w.alloc (.cells (row 32 (yv leaf)).toArray 25)).alloc (.cells #[pv] 33)).alloc (.cells #[.slice none 0 0] 33)).alloc (.cells (row 32 (yv fun _ => 0#8)).toArray 25)) (.int .i64 0) 26
  simp only [World.size_alloc, Nat.add_assoc, Nat.reduceAdd] at h1 h2 h3 h4 h5
  refine ⟨(((h1.alloc _).alloc _).alloc _).alloc _, ((h2.alloc _).alloc _).alloc _, (h3.alloc _).alloc _, h4.alloc _, h5, ?_, by simp⟩
  exact (((((Below.refl _ w).alloc (Nat.le_refl _) _).alloc (by simp) _).alloc (by simp; omega) _).alloc (by simp; omega) _).alloc (by simp; omega) _
end Go.Proofs.YtapmheocllicnaaDoor

namespace Go.Proofs.YtapmheocllicnaaDoor
open Go.RowKit Go.BigFrame Go.Shelf
attribute [local go_sem] Oper.semAt_some
theorem elem33b : ElemB Tryd.prog 33 23 24 := elem_b Tryd.underlying33 (by kernel_rfl) (by kernel_rfl) (by kernel_rfl)
theorem exec_storeR {P : Program} {o : Oper} {a : Act} {w : World} (t : TypeId) (x y : Operand) (ho : o.op = .store t x y) (b n : Nat) (g g' : Nat → Value) (hx : a.eval x = .pointer (some ⟨b, 0, none⟩)) (hy : a.eval y = .agg (row n g').toArray) (h : RowAt b n g w)
    (hi : (P.info? t).map (·.size) = some n) (h1 : ∀ j, j < n → (g' j).oneCell' = true) : (execOp a.eval o).run P w = .ok .skip (w.setCells b 0 (row n g')) := by
  unfold execOp
  simp only [ho, hx, hy, Instr.storeAt, Instr.sureAddr, Sem.run_bind, Sem.run_pure, Result.andThen_ok, run_storeVar_mid (P := P) w b 0 t (row n g').toArray (by rw [row_size]; exact h.there) (by rw [row_size]; exact hi) (row_one h1)]
theorem ret_chg {F : Func} {tmps : Array Value} {k1 k2 k3 b1 b2 b3 : Nat} {v : Value} {f : Nat → BitVec 8} {z : Int} {X : World} (hF : F.results = #[.cell k1 33, .cell k2 25, .cell k3 26]) (h1 : tmps.getD k1 undef = .pointer (some ⟨b1, 0, none⟩)) (h2 : tmps.getD k2 undef = .pointer (some ⟨b2, 0, none⟩)) (h3 : tmps.getD k3 undef = .pointer (some ⟨b3, 0, none⟩))
    (e1 : X.cell? ⟨b1, 0, none⟩ = some v) (e2 : RowAt b2 32 (yv f) X) (e3 : X.cell? ⟨b3, 0, none⟩ = some (.int .i64 z)) : Sem.run Tryd.prog (results F tmps) X = .ok (.tuple #[v, .agg (row 32 (yv f)).toArray, .int .i64 z]) X := by
  have hl := run_loadVar_mid (P := Tryd.prog) X b2 0 25 (row 32 (yv f)) _ e2.range Tryd.underlying25 rfl (by rw [row_length]; exact info24)
  have hl1 : (loadVar 33 ⟨b1, 0, none⟩).run Tryd.prog X = .ok v X := by simp [go_sem, e1]
  have hl3 : (loadVar 26 ⟨b3, 0, none⟩).run Tryd.prog X = .ok (.int .i64 z) X := by simp [go_sem, e3]
  unfold results
  rw [hF]
  simp only [List.mapM_toArray, List.mapM_cons, List.mapM_nil, h1, h2, h3]
  simp [asAddr, hl, hl1, hl3]
set_option maxRecDepth 20000 in
set_option maxHeartbeats 8000000 in
theorem change_go (n x k : Nat) (hn1 : 1 ≤ n) (hn2 : n ≤ 4096) (hx : x < n) (leaf : Nat → BitVec 8) (pv : Value) (us : Nat → Value) (ls : Nat → Nat) (bs : Nat → Nat → BitVec 8) (w : World) (hP : Parts pv k us ls bs w) (hC : TabC w) (hk : k = lvN n) (hls : ∀ i, i < k → ls i = 512) :
    Calls Tryd.prog 23 #[.int .i64 (n : Int), .int .i64 (x : Int), .agg (row 32 (yv leaf)).toArray, pv] w fun e w' =>
      ((gL leaf x bs (List.range k)).2.2 ∧ ∃ cv nb nc, e = .returned (.tuple #[cv, .agg (row 32 (yv (rootF n (gL leaf x bs (List.range k)).2.1))).toArray, .int .i64 0]) ∧ OwnB w.heap.size 23 cv k (chV nb nc) w' ∧ (∀ i, i < k → w.heap.size ≤ nb i ∧ 512 ≤ nc i ∧ RowAt (nb i) 512 (yv (ctL leaf x bs (List.range k) i)) w') ∧ Ext w w') ∨
      (¬ (gL leaf x bs (List.range k)).2.2 ∧ e = .returned (.tuple #[.slice none 0 0, .agg (row 32 (yv fun _ => 0#8)).toArray, .int .i64 160]) ∧ Ext w w') := by
  obtain ⟨ov, cap, rfl⟩ := hP.form
  have hk3 := lvN_pos n
  rw [← hk] at hk3
  obtain ⟨pa, rfl⟩ : ∃ pa, ov = some pa := by
    rcases hP.1 with ⟨h, h0⟩ | ⟨a, cap', h, _, h3⟩
    · omega
    · injection h with e1 e2 e3
      exact ⟨a, e1⟩
  obtain ⟨M1, M2, M3, M4, M5, M6, M7⟩ := chg_mem w leaf (.slice (some pa) k cap)
  have kp := path_any (n : Int) (.slice (some pa) k cap) k us ls bs _ (hP.ext M6) (by omega)
  rw [show isP (n : Int) k ls = true from decide_eq_true ⟨by omega, by omega, by rw [Int.toNat_natCast]; exact hk, hls⟩] at kp
  replace kp := hideit kp
  have e1 := M1.1
  have e2 := M2.1 0 (by decide)
  replace M1 := hideit M1
  replace M2 := hideit M2
  replace M3 := hideit M3
  replace M4 := hideit M4
  replace M5 := hideit M5
  replace M6 := hideit M6
  replace hP := hideit hP
  replace hC := hideit hC
  replace hls := hideit hls
  have i0 : ¬ (x : Int) < 0 := by omega
  have i1 : ¬ (n : Int) ≤ (x : Int) := by omega
  replace hk := hideit hk
  refine (callsIn_wide (n := 4)).1 (callsIn_of_wp_marks Tryd.func23 rfl trivial ?_ rfl)
  refine wpIn_wide.2 ?_
  simp only [Tryd.ntmps23, List.size_toArray, List.length_cons, List.length_nil, Nat.reduceAdd, Nat.reduceSub, Array.replicate_succ, Array.replicate_zero, List.push_toArray, List.append_toArray, List.nil_append, List.cons_append]
  have hz := zero24
  go_upto_region 1 with (fail)
  generalize ((((w.alloc (.cells (row 32 (yv leaf)).toArray 25)).alloc (.cells #[.slice (some pa) k cap] 33)).alloc (.cells #[.slice none 0 0] 33)).alloc (.cells (row 32 (yv fun _ => 0#8)).toArray 25)).alloc (.cells #[.int .i64 0] 26) = w4 at *
  go_upto_region 3 with (go_at_call 33; refine kp.out.mono ?_; rintro e w5 ⟨rfl, hX5⟩; have N1 := hideit (M1.out.carry hX5); have N2 := hideit (M2.out.carry hX5); have N3 := hideit (M3.out.carry hX5); have N4 := hideit (M4.out.carry hX5); have N5 := hideit (M5.out.carry hX5); have N6 := hideit (Ext.trans M6.out hX5); have N7 := hideit (Below.size hX5); clear hX5 M1 M2 M3 M4 M5 M6 kp e1 e2)
  obtain ⟨cA, hcA⟩ : ∃ cA, cA = w5.heap.size := ⟨_, rfl⟩
  have hcl : w.heap.size + 5 ≤ cA := by have := N7.out; omega
  have one : RowAt w5.heap.size 1 (fun _ => .slice none 0 0) (w5.alloc (.cells #[.slice none 0 0] 33)) := RowAt.newOf w5 1 _ 33 #[.slice none 0 0] (fun j hj => by
    have : j = 0 := by omega
    subst this
    rfl)
  have hX6 : Ext w5 (w5.alloc (.cells #[.slice none 0 0] 33)) := (Below.refl _ _).alloc (Nat.le_refl _) _
  have hsz6 : (w5.alloc (.cells #[.slice none 0 0] 33)).heap.size = w5.heap.size + 1 := by simp
  refine wp_region_lit ?_
  refine wpList_to rfl (.pointer (some ⟨w5.heap.size, 0, none⟩)) (w5.alloc (.cells #[.slice none 0 0] 33)) (by simp [go_sem]) ?_
  simp only [Act.put, List.setIfInBounds_toArray, List.set_cons_zero, List.set_cons_succ]
  generalize w5.alloc (.cells #[.slice none 0 0] 33) = w6 at *
  rw [← hcA] at one hsz6 ⊢
  go_upto_region 4 with (fail)
  have two := RowAt.new w6 32 (yv fun _ => 0#8) 25
  have hX7 : Ext w6 (w6.alloc (.cells (row 32 (yv fun _ => 0#8)).toArray 25)) := (Below.refl _ _).alloc (Nat.le_refl _) _
  have hsz7 : (w6.alloc (.cells (row 32 (yv fun _ => 0#8)).toArray 25)).heap.size = w6.heap.size + 1 := by simp
  refine wp_region_lit ?_
  refine wpList_to rfl (.pointer (some ⟨w6.heap.size, 0, none⟩)) (w6.alloc (.cells (row 32 (yv fun _ => 0#8)).toArray 25)) (by simp [go_sem, hz]) ?_
  simp only [Act.put, List.setIfInBounds_toArray, List.set_cons_zero, List.set_cons_succ]
  generalize w6.alloc (.cells (row 32 (yv fun _ => 0#8)).toArray 25) = w8 at *
  rw [hsz6] at two hsz7 ⊢
  go_upto_region 5 with (fail)
  refine wp_region_lit ?_
  refine wpList_run rfl (.agg (row 32 (yv leaf)).toArray) (exec_loadR 25 (.tmp 6) rfl w.heap.size 0 32 _ rfl ((N1.out.carry hX6).carry hX7).range Tryd.underlying25 rfl info24) ?_
  simp only [Act.put, List.setIfInBounds_toArray, List.set_cons_zero, List.set_cons_succ]
  have thr := RowAt.new w8 32 (yv fun _ => 0#8) 25
  have hX8 : Ext w8 (w8.alloc (.cells (row 32 (yv fun _ => 0#8)).toArray 25)) := (Below.refl _ _).alloc (Nat.le_refl _) _
  refine wpList_to rfl (.pointer (some ⟨w8.heap.size, 0, none⟩)) (w8.alloc (.cells (row 32 (yv fun _ => 0#8)).toArray 25)) (by simp [go_sem, hz]) ?_
  simp only [Act.put, List.setIfInBounds_toArray, List.set_cons_zero, List.set_cons_succ]
  rw [hsz7] at thr ⊢
  have hXX := Ext.trans hX6 (Ext.trans hX7 hX8)
  have HC0 : GI w cA k pa cap 0 (fun _ => 0#8) (fun _ => 0#8) (.slice none 0 0) (fun _ => 0) (fun _ => 0) (fun _ _ => 0#8) (w8.alloc (.cells (row 32 (yv fun _ => 0#8)).toArray 25)) :=
    ⟨hcl, Ext.trans N6.out hXX, N2.out.carry hXX, N3.out.carry hXX, N4.out.carry hXX, N5.out.carry hXX, (one.carry hX7).carry hX8, two.carry hX8, thr, own_nil _ _ _ _, fun _ => rfl, fun i hi => absurd hi (by omega)⟩
  have HC := hideit (HC0.setAf leaf)
  refine wpList_store_mid rfl 25 (.tmp 13) (.tmp 31) rfl _ 0 (row 32 (yv leaf)).toArray rfl rfl (by rw [row_size]; exact thr.there) (by rw [row_size]; exact info24) (row_one fun _ _ => rfl) ?_
  rw [show (row 32 (yv leaf)).toArray.toList = row 32 (yv leaf) from rfl]
  rw [show cA + 1 + 1 = cA + 2 from rfl] at *
  generalize (w8.alloc (.cells (row 32 (yv fun _ => 0#8)).toArray 25)).setCells (cA + 2) 0 (row 32 (yv leaf)) = w9 at *
  clear N1 N2 N3 N4 N5 N6 N7 one two thr hX6 hX7 hX8 hXX HC0 hsz6 hsz7 hcA
  simp only [Act.put]
  go_upto_region 6 with (fail)
  have e2 := HC.out.path.1 0 (by decide)
  refine wp_region_lit ?_
  refine wpList_run rfl (.int .i64 (x : Int)) (by simp [go_sem]) ?_
  simp only [Act.put, List.setIfInBounds_toArray, List.set_cons_zero, List.set_cons_succ]
  refine wpList_run rfl (.slice (some pa) k cap) (by simp [go_sem, e2]) ?_
  simp only [Act.put, List.setIfInBounds_toArray, List.set_cons_zero, List.set_cons_succ]
  refine wpList_run rfl (.int .i64 (k : Int)) (by simp [go_sem]) ?_
  simp only [Act.put, List.setIfInBounds_toArray, List.set_cons_zero, List.set_cons_succ]
  refine wpList_call rfl (by simp [go_sem]) ((places_any (x : Int) (k : Int) w9).mono ?_)
  rintro e w7 ⟨rfl, h7⟩
  refine ⟨_, rfl, ?_⟩
  simp only [Act.put, List.setIfInBounds_toArray, List.set_cons_zero, List.set_cons_succ]
  have hE7 : Ext w9 w7 := by rw [h7]; exact ((Below.refl _ _).alloc (Nat.le_refl _) _).alloc (by simp) _
  obtain ⟨w7s, hw7s⟩ : ∃ w7s, w7s = w9.heap.size := ⟨_, rfl⟩
  have b0 : w7.cell? ⟨w9.heap.size, 0, none⟩ = some (.int .i64 (x : Int)) := by rw [h7]; simp
  have b1 : w7.cell? ⟨w9.heap.size + 1, 0, none⟩ = some (.int .i64 (k : Int)) := by rw [h7]; simp
  have b2 : w7.heap.size = w9.heap.size + 2 := by rw [h7]; simp
  rw [← hw7s] at b0 b1 b2 ⊢
  have HC7 := hideit (HC.out.carry hE7)
  have hw7 : w.heap.size ≤ w7.heap.size := Below.size HC7.out.ext
  clear h7 hE7 HC e2 hw7s
  go_wp2
  generalize Value.bool (decide ((x : Int) < 0)) = q1
  refine (wpIn_wide (n := 4)).1 ?_
  refine wpIn_rangeFunc_ownG (F := Fence.wide) (n := 4) rfl (by decide) (gf := 45) (lb := #[.pointer (some ⟨w7s, 0, none⟩), .pointer (some ⟨w7s + 1, 0, none⟩)]) rfl trivial (enters_of Tryd.func45 (by kernel_rfl) rfl)
    (places_stops 3 (by decide) x k w7s (w7s + 1) w7 b0 b1 (by omega) (by omega) (by omega) (by omega)) walksK_t walksK_b (Below.refl _ _) (fun _ => rfl)
    (fun pre W => (gL leaf x bs (upL pre)).2.2 ∧ ∃ cv nb nc, GI w cA k pa cap pre.length (gL leaf x bs (upL pre)).1 (gL leaf x bs (upL pre)).2.1 cv nb nc (ctL leaf x bs (upL pre)) W)
    (fun c pre W => c = .ret ∧ ¬ (gL leaf x bs (upL pre)).2.2 ∧ Ext w W ∧ RowAt (w.heap.size + 2) 1 (fun _ => .slice none 0 0) W ∧ RowAt (w.heap.size + 3) 32 (yv fun _ => 0#8) W ∧ RowAt (w.heap.size + 4) 1 (fun _ => .int .i64 160) W)
    (fun s A B row hs hg hr => by
      obtain ⟨h1, cv, nb, nc, h2⟩ := hs
      exact ⟨h1, cv, nb, nc, h2.ownG hg fun k e => ⟨by have := (hr k e).1; omega, (hr k e).2⟩⟩)
    (fun c s A B row hs hg hr => ⟨hs.1, hs.2.1, Below.grown hs.2.2.1 hg (Below.size hs.2.2.1) (fun k e => by have := (hr k e).1; omega), hs.2.2.2.1.own hg fun k e => (hr k e).2, hs.2.2.2.2.1.own hg fun k e => (hr k e).2, hs.2.2.2.2.2.own hg fun k e => (hr k e).2⟩)
    ⟨trivial, _, _, _, ⟨HC7.out.lt, HC7.out.ext, HC7.out.path, HC7.out.r1, HC7.out.r2, HC7.out.r3, HC7.out.box, HC7.out.bf, HC7.out.af, HC7.out.own, HC7.out.nil, fun i hi => absurd hi (by simp)⟩⟩
    (fun j => { tmps := #[.int .i64 (n : Int), .int .i64 (x : Int), .agg (row 32 (yv leaf)).toArray, .slice (some pa) k cap, undef, undef, .pointer (some ⟨w.heap.size, 0, none⟩), .pointer (some ⟨w.heap.size + 1, 0, none⟩), .pointer (some ⟨w.heap.size + 1 + 1, 0, none⟩), .pointer (some ⟨w.heap.size + 1 + 1 + 1, 0, none⟩), .pointer (some ⟨w.heap.size + 1 + 1 + 1 + 1, 0, none⟩), .pointer (some ⟨cA, 0, none⟩), .pointer (some ⟨cA + 1, 0, none⟩), .pointer (some ⟨cA + 2, 0, none⟩), .int .i64 (j.1 : Int), .int .i64 (plc x j.1 : Int), undef, .int .i64 (n : Int), .slice (some pa) k cap, .bool true, .bool false, .bool false, .int .i64 (x : Int), q1, q1, q1, .int .i64 (x : Int), .int .i64 (n : Int), .bool false, q1, undef, .agg (row 32 (yv leaf)).toArray, .int .i64 (x : Int), .slice (some pa) k cap, .int .i64 (k : Int), .func (.func 45) #[] #[.pointer (some ⟨w7s, 0, none⟩), .pointer (some ⟨w7s + 1, 0, none⟩)], .int .i64 (j.1 : Int), .int .i64 (plc x j.1 : Int), undef, undef, undef, undef, undef, undef, undef, undef, undef, undef, undef, undef, undef, undef, undef, undef, undef, undef, undef, undef, undef, undef, undef, undef, undef, undef, undef, undef, undef, undef, undef, undef, undef], defers := [] }) ?assign ?body ?done ?stop
  case assign =>
    intro l j W K hK
    gi_wp2
    exact hK
  case body =>
    rintro l pre j W ⟨hok, cv, nb, nc, hG⟩ hpl
    obtain ⟨bef, hbef⟩ : ∃ bef, bef = (gL leaf x bs (upL pre)).1 := ⟨_, rfl⟩
    obtain ⟨aft, haft⟩ : ∃ aft, aft = (gL leaf x bs (upL pre)).2.1 := ⟨_, rfl⟩
    rw [← hbef, ← haft] at hG
    replace hbef := hideit hbef
    replace haft := hideit haft
    replace hok := hideit hok
    obtain ⟨aj, cj, huj, hcj, hlj⟩ : ∃ aj cj, us j.1 = .slice (some aj) 512 cj ∧ 512 ≤ cj ∧ LieAt aj 512 (yv (bs j.1)) w := by
      have h1 := hP.out.2 j.1 j.2
      rw [hls.out j.1 j.2] at h1
      rcases h1 with ⟨_, h⟩ | ⟨a, c, h, hc, hl⟩
      · cases h
      · exact ⟨a, c, h, hc, hl⟩
    have hcell : LieAt pa k us w := by
      rcases hP.out.1 with ⟨h, h0⟩ | ⟨a, cap', h, _, h3⟩
      · cases h
      · injection h with e1 e2 e3
        cases e1
        exact h3
    replace hcell := hideit hcell
    replace huj := hideit huj
    replace hlj := hideit hlj
    replace hG := hideit hG
    clear HC7 b0 b1
    have j0 : (0 : Int) ≤ (j.1 : Int) := by omega
    have j1 : (j.1 : Int) < (k : Int) := by have := j.2; omega
    have jp : plc x j.1 < 16 := Nat.mod_lt _ (by decide)
    obtain ⟨jj, hjj⟩ := j
    simp only at j0 j1 jp huj hlj
    refine wpIn_block ?_
    refine wpIn_seq ?_
    have e1 := hG.out.path.1 0 (by decide)
    have e2 := (hcell.out.carry hG.out.ext).1 jj hjj
    rw [huj.out] at e2
    refine round_lit (by kernel_rfl) (fun h => by obtain ⟨_, _, h⟩ := h; exact h) ?_
    refine wpList_run rfl (.slice (some pa) k cap) (by simp [go_sem, e1]) ?_
    simp only [Act.put, List.setIfInBounds_toArray, List.set_cons_zero, List.set_cons_succ]
    refine wpList_run rfl (.int .i64 (jj : Int)) (by simp [go_sem]) ?_
    simp only [Act.put, List.setIfInBounds_toArray, List.set_cons_zero, List.set_cons_succ]
    refine wpList_run rfl (.pointer (some (pa.add jj))) (by simp [go_sem, j1]) ?_
    simp only [Act.put, List.setIfInBounds_toArray, List.set_cons_zero, List.set_cons_succ]
    refine wpList_run rfl (.slice (some aj) 512 cj) (by simp [go_sem, e2]) ?_
    simp only [Act.put, List.setIfInBounds_toArray, List.set_cons_zero, List.set_cons_succ]
    refine wpList_call rfl (by simp [go_sem]) ((clone_any (.slice (some aj) 512 cj) 512 (bs jj) W (.inr ⟨aj, cj, rfl, hcj, hlj.out.carry hG.out.ext⟩) (by decide)).mono ?_)
    rintro e w9 ⟨vc, rfl, hO9, hX9⟩
    refine ⟨_, rfl, ?_⟩
    simp only [Act.put, List.setIfInBounds_toArray, List.set_cons_zero, List.set_cons_succ]
    obtain ⟨b, c, rfl, hbW, hc5, -, hR9⟩ := hO9.lies (by decide)
    have hW3 : cA + 3 ≤ W.heap.size := by have := hG.out.af.2.2; omega
    have hb3 : cA + 3 ≤ b := by omega
    obtain ⟨Wsz, hWsz⟩ : ∃ Wsz, Wsz = W.heap.size := ⟨_, rfl⟩
    have hob : ∀ k', cv.ownBlock = some k' → k' < Wsz := fun k' e => by rw [hWsz]; exact (hG.out.own.lt _ e).2
    have hnb : ∀ i, i < pre.length → nb i < Wsz := fun i hi => by rw [hWsz]; exact (hG.out.nodes i hi).2.2.2.2
    rw [← hWsz] at hbW
    replace hWsz := hideit hWsz
    have G9 := hideit (hG.out.carry hX9)
    have B9 := hideit hR9
    have K9 : KeepsOthers W w9 := KeepsOthers.of_ext hX9
    clear hO9 hX9 hR9 hG e1 e2
    refine wpList_run rfl (.slice (some ⟨b, 0, none⟩) 512 c) (by simp [go_sem]) ?_
    simp only [Act.put, List.setIfInBounds_toArray, List.set_cons_zero, List.set_cons_succ]
    refine wpList_nil ?_
    change Code.wpIn (Fence.wide.inRound l) _ _ _ _ _ _
    refine wpIn_seq ?_
    refine wpIn_seq ?_
    have hdr : Ext w9 w9.drew := (Ext.refl w9).draw
    have GD := hideit (G9.out.carry hdr)
    have BD := hideit (B9.out.carry hdr)
    have KD := K9.trans (KeepsOthers.drew w9)
    clear G9 B9 K9 hdr
    refine round_lad (by kernel_rfl) (fun h => by obtain ⟨_, _, h⟩ := h; exact h) (by kernel_rfl) ?_
    by_cases hj0 : jj = 0
    · refine wpAny_lad (fun X => Ext w9.drew X) [(false, 0), (false, 1), (false, 2), (false, 3), (false, 4), (false, 6), (true, 5), (false, 7), (false, 8)] (by kernel_rfl) (by decide +kernel) (by decide +kernel) (by decide +kernel) (by decide +kernel) (Ext.refl _) ?_
      refine wpX_f _ (.int .i64 (jj : Int)) rfl rfl (fun X _ => by simp [go_sem]) ?_
      simp only [List.getElem_toArray, List.getElem_cons_zero, Act.put, List.setIfInBounds_toArray, List.set_cons_zero, List.set_cons_succ]
      refine wpX_f _ (.bool false) rfl rfl (fun X _ => by simp [go_sem, hj0]) ?_
      simp only [List.getElem_toArray, List.getElem_cons_zero, List.getElem_cons_succ, Act.put, List.setIfInBounds_toArray, List.set_cons_zero, List.set_cons_succ]
      refine wpX_f _ (.bool false) rfl rfl (fun X _ => by simp [go_sem]) ?_
      simp only [List.getElem_toArray, List.getElem_cons_zero, List.getElem_cons_succ, Act.put, List.setIfInBounds_toArray, List.set_cons_zero, List.set_cons_succ]
      refine wpX_fskip _ rfl rfl ?_
      simp only [List.getElem_toArray, List.getElem_cons_zero, List.getElem_cons_succ, Act.put, List.setIfInBounds_toArray, List.set_cons_zero, List.set_cons_succ]
      refine wpX_fskip _ rfl rfl ?_
      simp only [List.getElem_toArray, List.getElem_cons_zero, List.getElem_cons_succ, Act.put, List.setIfInBounds_toArray, List.set_cons_zero, List.set_cons_succ]
      refine wpX_fskip _ rfl rfl ?_
      simp only [List.getElem_toArray, List.getElem_cons_zero, List.getElem_cons_succ, Act.put, List.setIfInBounds_toArray, List.set_cons_zero, List.set_cons_succ]
      refine wpX_skip _ rfl rfl (Ext.refl _) ?_
      simp only [List.getElem_toArray, List.getElem_cons_zero, List.getElem_cons_succ, Act.put, List.setIfInBounds_toArray, List.set_cons_zero, List.set_cons_succ]
      refine wpX_fskip _ rfl rfl ?_
      simp only [List.getElem_toArray, List.getElem_cons_zero, List.getElem_cons_succ, Act.put, List.setIfInBounds_toArray, List.set_cons_zero, List.set_cons_succ]
      refine wpX_f _ (.bool false) rfl rfl (fun X _ => by simp [go_sem]) ?_
      simp only [List.getElem_toArray, List.getElem_cons_zero, List.getElem_cons_succ, Act.put, List.setIfInBounds_toArray, List.set_cons_zero, List.set_cons_succ]
      refine wpX_nil ?_
      have HG := GD
      have HB := BD
      have hKO := KD
      have hokj : 0 < jj → ∀ t, t < 32 → bs jj (32 * plc x jj + t) = (gL leaf x bs (upL pre)).1 t := fun h => absurd h (by omega)
      clear GD BD KD
      change Code.wpIn (Fence.wide.inRound l) _ _ _ _ _ _
      refine wpIn_cond_false rfl ?_
      refine wpIn_skip ?_
      change Code.wpIn (Fence.wide.inRound l) _ _ _ _ _ _
      refine wpIn_seq ?_
      refine round_lit (by kernel_rfl) (fun h => by obtain ⟨_, _, h⟩ := h; exact h) ?_
      refine wpList_run rfl (.int .i64 (jj : Int)) (by simp [go_sem]) ?_
      simp only [Act.put, List.setIfInBounds_toArray, List.set_cons_zero, List.set_cons_succ]
      refine wpList_run rfl (.slice (some ⟨b, 0, none⟩) 512 c) (by simp [go_sem]) ?_
      simp only [Act.put, List.setIfInBounds_toArray, List.set_cons_zero, List.set_cons_succ]
      have kn := node_any (jj : Int) (BitVec.ofNat 8 jj) (by rw [BitVec.toNat_ofNat]; omega) (.slice (some ⟨b, 0, none⟩) 512 c) 512 (bs jj) w9.drew (.inr ⟨_, c, rfl, hc5, HB.out.lie 512 (Nat.le_refl _)⟩) (hC.out.ext HG.out.ext) (by decide)
      refine wpList_call rfl (by simp [go_sem]) ((kn).mono ?_)
      rintro e w11 ⟨rfl, hX11⟩
      refine ⟨_, rfl, ?_⟩
      simp only [Act.put, List.setIfInBounds_toArray, List.set_cons_zero, List.set_cons_succ]
      have G11 := hideit (HG.out.carry hX11)
      have B11 := hideit (HB.out.carry hX11)
      have K11 := hKO.trans (KeepsOthers.of_ext hX11)
      clear kn hX11 HG HB hKO
      refine wpList_store_mid rfl 25 (.tmp 12) (.tmp 55) rfl _ 0 (row 32 (yv (nodeF (BitVec.ofNat 8 jj) (bs jj) 512))).toArray rfl rfl (by rw [row_size]; exact G11.out.bf.there) (by rw [row_size]; exact info24) (row_one fun _ _ => rfl) ?_
      rw [show (row 32 (yv (nodeF (BitVec.ofNat 8 jj) (bs jj) 512))).toArray.toList = row 32 (yv (nodeF (BitVec.ofNat 8 jj) (bs jj) 512)) from rfl]
      have G12 := hideit (G11.out.setBf (nodeF (BitVec.ofNat 8 jj) (bs jj) 512))
      have B12 := hideit (B11.out.cellsOther (c := cA + 1) (by omega) (row 32 (yv (nodeF (BitVec.ofNat 8 jj) (bs jj) 512))) 0)
      have K12 := KeepsOthers.setCells (cA + 1) (row 32 (yv (nodeF (BitVec.ofNat 8 jj) (bs jj) 512))) 0 _ _ K11
      generalize w11.setCells (cA + 1) 0 (row 32 (yv (nodeF (BitVec.ofNat 8 jj) (bs jj) 512))) = w12 at *
      clear G11 B11 K11
      refine wpList_nil ?_
      simp only [Act.put]
      change Code.wpIn (Fence.wide.inRound l) _ _ _ _ _ _
      refine wpIn_seq ?_
      refine round_lit (by kernel_rfl) (fun h => by obtain ⟨_, _, h⟩ := h; exact h) ?_
      refine wpList_run rfl (.slice (some ⟨b, 0, none⟩) 512 c) (by simp [go_sem]) ?_
      simp only [Act.put, List.setIfInBounds_toArray, List.set_cons_zero, List.set_cons_succ]
      refine wpList_run rfl (.int .i64 (plc x jj : Int)) (by simp [go_sem]) ?_
      simp only [Act.put, List.setIfInBounds_toArray, List.set_cons_zero, List.set_cons_succ]
      refine wpList_run rfl (.agg (row 32 (yv aft)).toArray) (exec_loadR 25 (.tmp 13) rfl (cA + 2) 0 32 _ rfl G12.out.af.range Tryd.underlying25 rfl info24) ?_
      simp only [Act.put, List.setIfInBounds_toArray, List.set_cons_zero, List.set_cons_succ]
      refine wpList_call rfl (by simp [go_sem]) ((set_any b c (plc x jj) (bs jj) aft w12 jp hc5 B12.out).mono ?_)
      rintro e w13 ⟨rfl, hR13, hB13⟩
      refine ⟨_, rfl, ?_⟩
      simp only [Act.put, List.setIfInBounds_toArray, List.set_cons_zero, List.set_cons_succ]
      have hown13 : cv.ownBlock ≠ some b := fun e => by
        have h9 : b < Wsz := hob b e
        omega
      have G13 := hideit (G12.out.but hB13 hb3 (fun i hi => by have := hnb i hi; omega) hown13)
      have K13 : KeepsOthers W w13 := K12.trans (KeepsOthers.of_grownBy hB13 (fun j' o hj ho => by
        cases hj
        obtain ⟨o', ho', hc'⟩ := cells_of_cell (B12.out.1 0 (by decide))
        rw [ho] at ho'
        cases ho'
        exact hc'))
      replace hR13 := hideit hR13
      clear G12 B12 K12 hB13
      refine wpList_nil ?_
      change Code.wpIn (Fence.wide.inRound l) _ _ _ _ _ _
      refine wpIn_seq ?_
      refine round_lit (by kernel_rfl) (fun h => by obtain ⟨_, _, h⟩ := h; exact h) ?_
      refine wpList_run rfl (.int .i64 (jj : Int)) (by simp [go_sem]) ?_
      simp only [Act.put, List.setIfInBounds_toArray, List.set_cons_zero, List.set_cons_succ]
      refine wpList_run rfl (.slice (some ⟨b, 0, none⟩) 512 c) (by simp [go_sem]) ?_
      simp only [Act.put, List.setIfInBounds_toArray, List.set_cons_zero, List.set_cons_succ]
      have kn := node_any (jj : Int) (BitVec.ofNat 8 jj) (by rw [BitVec.toNat_ofNat]; omega) (.slice (some ⟨b, 0, none⟩) 512 c) 512 (putF (bs jj) (plc x jj) aft) w13 (.inr ⟨_, c, rfl, hc5, hR13.out.lie 512 (Nat.le_refl _)⟩) (hC.out.ext G13.out.ext) (by decide)
      obtain ⟨A2, hA2⟩ : ∃ A2, A2 = nodeF (BitVec.ofNat 8 jj) (putF (bs jj) (plc x jj) aft) 512 := ⟨_, rfl⟩
      rw [← hA2] at kn
      replace hA2 := hideit hA2
      refine wpList_call rfl (by simp [go_sem]) ((kn).mono ?_)
      rintro e w14 ⟨rfl, hX14⟩
      refine ⟨_, rfl, ?_⟩
      simp only [Act.put, List.setIfInBounds_toArray, List.set_cons_zero, List.set_cons_succ]
      have G14 := hideit (G13.out.carry hX14)
      have B14 := hideit (hR13.out.carry hX14)
      have K14 := K13.trans (KeepsOthers.of_ext hX14)
      clear kn hX14 G13 hR13 K13
      refine wpList_store_mid rfl 25 (.tmp 13) (.tmp 62) rfl _ 0 (row 32 (yv A2)).toArray rfl rfl (by rw [row_size]; exact G14.out.af.there) (by rw [row_size]; exact info24) (row_one fun _ _ => rfl) ?_
      rw [show (row 32 (yv A2)).toArray.toList = row 32 (yv A2) from rfl]
      have G15 := hideit (G14.out.setAf A2)
      have B15 := hideit (B14.out.cellsOther (c := cA + 2) (by omega) (row 32 (yv A2)) 0)
      have K15 := KeepsOthers.setCells (cA + 2) (row 32 (yv A2)) 0 _ _ K14
      generalize w14.setCells (cA + 2) 0 (row 32 (yv A2)) = w15 at *
      clear G14 B14 K14
      refine wpList_nil ?_
      simp only [Act.put]
      change Code.wpIn (Fence.wide.inRound l) _ _ _ _ _ _
      have e1 := G15.out.box.1 0 (by decide)
      have hX16 : Ext w15 (w15.alloc (.cells #[.slice (some ⟨b, 0, none⟩) 512 c] 23)) := (Below.refl _ _).alloc (Nat.le_refl _) _
      have hN16 := hideit (lie_us w15 1 #[.slice (some ⟨b, 0, none⟩) 512 c] (fun _ => .slice (some ⟨b, 0, none⟩) 512 c) (fun j hj => by
        have : j = 0 := by omega
        subst this
        rfl) 23)
      have G16 := hideit (G15.out.carry hX16)
      have B16 := hideit (B15.out.carry hX16)
      have K16 := K15.trans (KeepsOthers.of_ext hX16)
      refine round_lit (by kernel_rfl) (fun h => by obtain ⟨_, _, h⟩ := h; exact h) ?_
      refine wpList_run rfl (cv) (by simp [go_sem, e1]) ?_
      simp only [Act.put, List.setIfInBounds_toArray, List.set_cons_zero, List.set_cons_succ]
      refine wpList_run rfl (.slice (some ⟨b, 0, none⟩) 512 c) (by simp [go_sem]) ?_
      simp only [Act.put, List.setIfInBounds_toArray, List.set_cons_zero, List.set_cons_succ]
      refine wpList_to rfl (.slice (some ⟨w15.heap.size, 0, none⟩) 1 1) (w15.alloc (.cells #[.slice (some ⟨b, 0, none⟩) 512 c] 23)) (by simp [go_sem]) ?_
      simp only [Act.put, List.setIfInBounds_toArray, List.set_cons_zero, List.set_cons_succ]
      generalize w15.alloc (.cells #[.slice (some ⟨b, 0, none⟩) 512 c] 23) = w16 at *
      generalize w15.heap.size = ab at *
      clear G15 B15 K15 hX16 e1
      have hs16 : cA + 3 ≤ w16.heap.size := by have := G16.out.af.2.2; omega
      refine wpList_growE (n := pre.length) (base := cA + 3) elem33b rfl (.tmp 63) (.tmp 65) rfl rfl G16.out.own ⟨ab, 0, none⟩ 1 1 (fun _ => .slice (some ⟨b, 0, none⟩) 512 c) (chV (fun i => if i = pre.length then b else nb i) (fun i => if i = pre.length then c else nc i)) rfl hN16.out (fun _ _ => rfl) (fun i hi => by
        unfold chV
        simp only [show ¬ i = pre.length by omega, if_false]) (fun i hi => by
        rw [show i = 0 by omega]
        unfold chV
        simp only [Nat.add_zero, if_true]) (by omega) (by omega) hs16 ?_
      intro v' Y hO' hg'
      have K17 : KeepsOthers W Y := K16.trans (KeepsOthers.of_grownBy hg' (own_cells G16.out.own))
      have G17 := hideit (G16.out.grow hk3.2 (by omega) hb3 hc5 B16.out hg' hO')
      have boxY : RowAt cA 1 (fun _ => cv) Y := by
        refine G16.out.box.grown hg' (own_ne G16.out.own G16.out.nil G16.out.box (by decide) (fun e => ?_))
        rcases (by omega : pre.length = 0 ∨ 0 < pre.length) with h0 | h0
        · have e2 : chV nb nc 0 = cv := e
          rw [G16.out.nil h0] at e2
          cases e2
        · obtain ⟨b', c', e', _⟩ := G16.out.own.lies h0
          have e2 : chV nb nc 0 = cv := e
          rw [e'] at e2
          injection e2 with _ e2 _
          omega
      obtain ⟨g', cap', rfl⟩ : ∃ g' cap', v' = .slice g' (pre.length + 1) cap' := by
        obtain ⟨b', c', e', _⟩ := hO'.lies (by omega)
        exact ⟨_, _, e'⟩
      simp only [Act.put, List.setIfInBounds_toArray, List.set_cons_zero, List.set_cons_succ]
      have e3 := boxY.1 0 (by decide)
      have e4 := boxY.2.1 0 (by decide)
      refine wpList_st rfl (Y.setCell ⟨cA, 0, none⟩ (.slice g' (pre.length + 1) cap')) (by simp [go_sem, e3, e4]) ?_
      refine wpList_nil ?_
      have K18 := K17.trans (KeepsOthers.setCell Y ⟨cA, 0, none⟩ (.slice g' (pre.length + 1) cap'))
      refine ⟨K18.from _, K18.walks, ?_, ?_⟩
      · rw [gL_snoc]
        exact ⟨hok.out, hokj⟩
      · refine ⟨.slice g' (pre.length + 1) cap', (fun i => if i = pre.length then b else nb i), (fun i => if i = pre.length then c else nc i), ?_⟩
        rw [gL_snoc, List.length_append, List.length_singleton]
        have hG := G17.out
        rw [hA2.out, haft.out] at hG
        refine ⟨hG.lt, hG.ext, hG.path, hG.r1, hG.r2, hG.r3, hG.box, hG.bf, hG.af, hG.own, hG.nil, fun i hi => ?_⟩
        obtain ⟨n1, n2, n3⟩ := hG.nodes i hi
        refine ⟨n1, n2, n3.congr fun t ht => ?_⟩
        unfold yv
        have hup : upL (pre ++ [(⟨jj, hjj⟩ : Lev k)]) = upL pre ++ [jj] := by unfold upL; rw [List.map_append]; rfl
        have hlen : (upL pre).length = pre.length := by unfold upL; rw [List.length_map]
        by_cases e : i = pre.length
        · subst e
          simp only [if_true]
          rw [hup, ← hlen, ctL_new]
        · simp only [e, if_false]
          rw [hup, ctL_old _ _ _ _ _ _ (by omega)]
    · have z1 : 0 < jj := by omega
      refine wpAny_lad (fun X => Ext w9.drew X) [(false, 0), (false, 1), (false, 2), (false, 3), (false, 4), (false, 6), (true, 5), (false, 7), (false, 8)] (by kernel_rfl) (by decide +kernel) (by decide +kernel) (by decide +kernel) (by decide +kernel) (Ext.refl _) ?_
      refine wpX_f _ (.int .i64 (jj : Int)) rfl rfl (fun X _ => by simp [go_sem]) ?_
      simp only [List.getElem_toArray, List.getElem_cons_zero, Act.put, List.setIfInBounds_toArray, List.set_cons_zero, List.set_cons_succ]
      refine wpX_f _ (.bool true) rfl rfl (fun X _ => by simp [go_sem, z1]) ?_
      simp only [List.getElem_toArray, List.getElem_cons_zero, List.getElem_cons_succ, Act.put, List.setIfInBounds_toArray, List.set_cons_zero, List.set_cons_succ]
      refine wpX_f _ (.bool true) rfl rfl (fun X _ => by simp [go_sem]) ?_
      simp only [List.getElem_toArray, List.getElem_cons_zero, List.getElem_cons_succ, Act.put, List.setIfInBounds_toArray, List.set_cons_zero, List.set_cons_succ]
      refine wpX_f _ (.slice (some ⟨b, 0, none⟩) 512 c) rfl rfl (fun X _ => by simp [go_sem]) ?_
      simp only [List.getElem_toArray, List.getElem_cons_zero, List.getElem_cons_succ, Act.put, List.setIfInBounds_toArray, List.set_cons_zero, List.set_cons_succ]
      refine wpX_f _ (.int .i64 (plc x jj : Int)) rfl rfl (fun X _ => by simp [go_sem]) ?_
      simp only [List.getElem_toArray, List.getElem_cons_zero, List.getElem_cons_succ, Act.put, List.setIfInBounds_toArray, List.set_cons_zero, List.set_cons_succ]
      refine wpX_f _ (.agg (row 32 (yv bef)).toArray) rfl rfl (fun X hX => exec_loadR 25 (.tmp 12) rfl (cA + 1) 0 32 _ rfl (GD.out.carry hX).bf.range Tryd.underlying25 rfl info24) ?_
      simp only [List.getElem_toArray, List.getElem_cons_zero, List.getElem_cons_succ, Act.put, List.setIfInBounds_toArray, List.set_cons_zero, List.set_cons_succ]
      refine wpX_call _ rfl rfl (by simp [go_sem]) ((child_any ⟨b, 0, none⟩ c (plc x jj) (bs jj) w9.drew jp hc5 (BD.out.lie 512 (Nat.le_refl _))).mono ?_)
      rintro e w10 ⟨rfl, hX10⟩
      refine ⟨_, rfl, fun X => Ext w10 X, fun X hX => Ext.trans hX10 hX, Ext.refl _, ?_⟩
      simp only [List.getElem_toArray, List.getElem_cons_zero, List.getElem_cons_succ, Act.put, List.setIfInBounds_toArray, List.set_cons_zero, List.set_cons_succ]
      refine wpX_f _ (.bool (!(eqN 32 (fun t => bs jj (32 * plc x jj + t)) bef))) rfl rfl (fun X hX => exec_cmp .neq 25 25 (.tmp 48) (.tmp 49) rfl _ _ rfl rfl (by kernel_rfl) _ (neq25 _ _ X)) ?_
      simp only [List.getElem_toArray, List.getElem_cons_zero, List.getElem_cons_succ, Act.put, List.setIfInBounds_toArray, List.set_cons_zero, List.set_cons_succ]
      refine wpX_f _ (.bool (!(eqN 32 (fun t => bs jj (32 * plc x jj + t)) bef))) rfl rfl (fun X _ => by simp [go_sem]) ?_
      simp only [List.getElem_toArray, List.getElem_cons_zero, List.getElem_cons_succ, Act.put, List.setIfInBounds_toArray, List.set_cons_zero, List.set_cons_succ]
      refine wpX_nil ?_
      have HG := hideit (GD.out.carry hX10)
      have HB := hideit (BD.out.carry hX10)
      have hKO := KD.trans (KeepsOthers.of_ext hX10)
      clear GD BD KD hX10
      cases hb : eqN 32 (fun t => bs jj (32 * plc x jj + t)) bef with
      | false =>
        change Code.wpIn (Fence.wide.inRound l) _ _ _ _ _ _
        refine wpIn_cond_true rfl ?_
        refine wpIn_seq ?_
        refine round_lit (by kernel_rfl) (fun h => by obtain ⟨_, _, h⟩ := h; exact h) ?_
        refine wpList_build rfl 25 [] rfl (.agg (row 32 (yv fun _ => 0#8)).toArray) (build25 _) ?_
        simp only [Act.put, List.setIfInBounds_toArray, List.set_cons_zero, List.set_cons_succ]
        have e1 := HG.out.r1.1 0 (by decide)
        have e2 := HG.out.r1.2.1 0 (by decide)
        refine wpList_st rfl (w10.setCell ⟨w.heap.size + 2, 0, none⟩ (.slice none 0 0)) (by simp [go_sem, e1, e2]) ?_
        simp only [Act.put]
        have hl5 := HG.out.lt
        have Ra := (HG.out.r1.set 0 (.slice none 0 0)).congr (g' := fun _ => .slice none 0 0) fun t ht => by rw [if_pos (by omega)]
        have Rb := HG.out.r2.other ⟨w.heap.size + 2, 0, none⟩ (.slice none 0 0) (by show w.heap.size + 2 ≠ w.heap.size + 3; omega)
        have Rc := HG.out.r3.other ⟨w.heap.size + 2, 0, none⟩ (.slice none 0 0) (by show w.heap.size + 2 ≠ w.heap.size + 4; omega)
        have Re := Below.setCell (p := ⟨w.heap.size + 2, 0, none⟩) HG.out.ext (by show w.heap.size ≤ w.heap.size + 2; omega) (.slice none 0 0)
        have Rk := hKO.trans (KeepsOthers.setCell w10 ⟨w.heap.size + 2, 0, none⟩ (.slice none 0 0))
        generalize w10.setCell ⟨w.heap.size + 2, 0, none⟩ (.slice none 0 0) = w11 at *
        refine wpList_store_mid rfl 25 (.tmp 9) (.tmp 52) rfl _ 0 (row 32 (yv fun _ => 0#8)).toArray rfl rfl (by rw [row_size]; exact Rb.there) (by rw [row_size]; exact info24) (row_one fun _ _ => rfl) ?_
        rw [show (row 32 (yv fun _ => 0#8)).toArray.toList = row 32 (yv fun _ => 0#8) from rfl]
        replace Ra := Ra.cellsOther (c := w.heap.size + 3) (by omega) (row 32 (yv fun _ => 0#8)) 0
        replace Rb := Rb.cells (g' := yv fun _ => 0#8)
        replace Rc := Rc.cellsOther (c := w.heap.size + 3) (by omega) (row 32 (yv fun _ => 0#8)) 0
        replace Re := below_setCells (w := w) (w.heap.size + 3) (by omega) (row 32 (yv fun _ => 0#8)) 0 _ Re
        replace Rk := KeepsOthers.setCells (w.heap.size + 3) (row 32 (yv fun _ => 0#8)) 0 _ _ Rk
        generalize w11.setCells (w.heap.size + 3) 0 (row 32 (yv fun _ => 0#8)) = w12 at *
        have e3 := Rc.1 0 (by decide)
        have e4 := Rc.2.1 0 (by decide)
        simp only [Act.put]
        refine wpList_st rfl (w12.setCell ⟨w.heap.size + 4, 0, none⟩ (.int .i64 160)) (by simp [go_sem, e3, e4]) ?_
        refine wpList_nil ?_
        change Code.wpIn (Fence.wide.inRound l) _ _ _ _ _ _
        refine wpIn_ret ?_
        refine ⟨(Rk.trans (KeepsOthers.setCell _ _ _)).from _, rfl, ?_, ?_, ?_, ?_, ?_⟩
        · rw [gL_snoc]
          intro h
          have : eqN 32 (fun t => bs jj (32 * plc x jj + t)) bef = true := eqN_iff.2 (by rw [hbef.out]; exact h.2 z1)
          rw [hb] at this
          cases this
        · exact Below.setCell (p := ⟨w.heap.size + 4, 0, none⟩) Re (by show w.heap.size ≤ w.heap.size + 4; omega) _
        · exact Ra.other _ _ (by show w.heap.size + 4 ≠ w.heap.size + 2; omega)
        · exact Rb.other _ _ (by show w.heap.size + 4 ≠ w.heap.size + 3; omega)
        · exact (Rc.set 0 (.int .i64 160)).congr fun t ht => by rw [if_pos (by omega)]
      | true =>
        have hokj : 0 < jj → ∀ t, t < 32 → bs jj (32 * plc x jj + t) = (gL leaf x bs (upL pre)).1 t := fun _ => by rw [← hbef.out]; exact eqN_iff.1 hb
        change Code.wpIn (Fence.wide.inRound l) _ _ _ _ _ _
        refine wpIn_cond_false rfl ?_
        refine wpIn_skip ?_
        change Code.wpIn (Fence.wide.inRound l) _ _ _ _ _ _
        refine wpIn_seq ?_
        refine round_lit (by kernel_rfl) (fun h => by obtain ⟨_, _, h⟩ := h; exact h) ?_
        refine wpList_run rfl (.int .i64 (jj : Int)) (by simp [go_sem]) ?_
        simp only [Act.put, List.setIfInBounds_toArray, List.set_cons_zero, List.set_cons_succ]
        refine wpList_run rfl (.slice (some ⟨b, 0, none⟩) 512 c) (by simp [go_sem]) ?_
        simp only [Act.put, List.setIfInBounds_toArray, List.set_cons_zero, List.set_cons_succ]
        have kn := node_any (jj : Int) (BitVec.ofNat 8 jj) (by rw [BitVec.toNat_ofNat]; omega) (.slice (some ⟨b, 0, none⟩) 512 c) 512 (bs jj) w10 (.inr ⟨_, c, rfl, hc5, HB.out.lie 512 (Nat.le_refl _)⟩) (hC.out.ext HG.out.ext) (by decide)
        refine wpList_call rfl (by simp [go_sem]) ((kn).mono ?_)
        rintro e w11 ⟨rfl, hX11⟩
        refine ⟨_, rfl, ?_⟩
        simp only [Act.put, List.setIfInBounds_toArray, List.set_cons_zero, List.set_cons_succ]
        have G11 := hideit (HG.out.carry hX11)
        have B11 := hideit (HB.out.carry hX11)
        have K11 := hKO.trans (KeepsOthers.of_ext hX11)
        clear kn hX11 HG HB hKO
        refine wpList_store_mid rfl 25 (.tmp 12) (.tmp 55) rfl _ 0 (row 32 (yv (nodeF (BitVec.ofNat 8 jj) (bs jj) 512))).toArray rfl rfl (by rw [row_size]; exact G11.out.bf.there) (by rw [row_size]; exact info24) (row_one fun _ _ => rfl) ?_
        rw [show (row 32 (yv (nodeF (BitVec.ofNat 8 jj) (bs jj) 512))).toArray.toList = row 32 (yv (nodeF (BitVec.ofNat 8 jj) (bs jj) 512)) from rfl]
        have G12 := hideit (G11.out.setBf (nodeF (BitVec.ofNat 8 jj) (bs jj) 512))
        have B12 := hideit (B11.out.cellsOther (c := cA + 1) (by omega) (row 32 (yv (nodeF (BitVec.ofNat 8 jj) (bs jj) 512))) 0)
        have K12 := KeepsOthers.setCells (cA + 1) (row 32 (yv (nodeF (BitVec.ofNat 8 jj) (bs jj) 512))) 0 _ _ K11
        generalize w11.setCells (cA + 1) 0 (row 32 (yv (nodeF (BitVec.ofNat 8 jj) (bs jj) 512))) = w12 at *
        clear G11 B11 K11
        refine wpList_nil ?_
        simp only [Act.put]
        change Code.wpIn (Fence.wide.inRound l) _ _ _ _ _ _
        refine wpIn_seq ?_
        refine round_lit (by kernel_rfl) (fun h => by obtain ⟨_, _, h⟩ := h; exact h) ?_
        refine wpList_run rfl (.slice (some ⟨b, 0, none⟩) 512 c) (by simp [go_sem]) ?_
        simp only [Act.put, List.setIfInBounds_toArray, List.set_cons_zero, List.set_cons_succ]
        refine wpList_run rfl (.int .i64 (plc x jj : Int)) (by simp [go_sem]) ?_
        simp only [Act.put, List.setIfInBounds_toArray, List.set_cons_zero, List.set_cons_succ]
        refine wpList_run rfl (.agg (row 32 (yv aft)).toArray) (exec_loadR 25 (.tmp 13) rfl (cA + 2) 0 32 _ rfl G12.out.af.range Tryd.underlying25 rfl info24) ?_
        simp only [Act.put, List.setIfInBounds_toArray, List.set_cons_zero, List.set_cons_succ]
        refine wpList_call rfl (by simp [go_sem]) ((set_any b c (plc x jj) (bs jj) aft w12 jp hc5 B12.out).mono ?_)
        rintro e w13 ⟨rfl, hR13, hB13⟩
        refine ⟨_, rfl, ?_⟩
        simp only [Act.put, List.setIfInBounds_toArray, List.set_cons_zero, List.set_cons_succ]
        have hown13 : cv.ownBlock ≠ some b := fun e => by
          have h9 : b < Wsz := hob b e
          omega
        have G13 := hideit (G12.out.but hB13 hb3 (fun i hi => by have := hnb i hi; omega) hown13)
        have K13 : KeepsOthers W w13 := K12.trans (KeepsOthers.of_grownBy hB13 (fun j' o hj ho => by
          cases hj
          obtain ⟨o', ho', hc'⟩ := cells_of_cell (B12.out.1 0 (by decide))
          rw [ho] at ho'
          cases ho'
          exact hc'))
        replace hR13 := hideit hR13
        clear G12 B12 K12 hB13
        refine wpList_nil ?_
        change Code.wpIn (Fence.wide.inRound l) _ _ _ _ _ _
        refine wpIn_seq ?_
        refine round_lit (by kernel_rfl) (fun h => by obtain ⟨_, _, h⟩ := h; exact h) ?_
        refine wpList_run rfl (.int .i64 (jj : Int)) (by simp [go_sem]) ?_
        simp only [Act.put, List.setIfInBounds_toArray, List.set_cons_zero, List.set_cons_succ]
        refine wpList_run rfl (.slice (some ⟨b, 0, none⟩) 512 c) (by simp [go_sem]) ?_
        simp only [Act.put, List.setIfInBounds_toArray, List.set_cons_zero, List.set_cons_succ]
        have kn := node_any (jj : Int) (BitVec.ofNat 8 jj) (by rw [BitVec.toNat_ofNat]; omega) (.slice (some ⟨b, 0, none⟩) 512 c) 512 (putF (bs jj) (plc x jj) aft) w13 (.inr ⟨_, c, rfl, hc5, hR13.out.lie 512 (Nat.le_refl _)⟩) (hC.out.ext G13.out.ext) (by decide)
        obtain ⟨A2, hA2⟩ : ∃ A2, A2 = nodeF (BitVec.ofNat 8 jj) (putF (bs jj) (plc x jj) aft) 512 := ⟨_, rfl⟩
        rw [← hA2] at kn
        replace hA2 := hideit hA2
        refine wpList_call rfl (by simp [go_sem]) ((kn).mono ?_)
        rintro e w14 ⟨rfl, hX14⟩
        refine ⟨_, rfl, ?_⟩
        simp only [Act.put, List.setIfInBounds_toArray, List.set_cons_zero, List.set_cons_succ]
        have G14 := hideit (G13.out.carry hX14)
        have B14 := hideit (hR13.out.carry hX14)
        have K14 := K13.trans (KeepsOthers.of_ext hX14)
        clear kn hX14 G13 hR13 K13
        refine wpList_store_mid rfl 25 (.tmp 13) (.tmp 62) rfl _ 0 (row 32 (yv A2)).toArray rfl rfl (by rw [row_size]; exact G14.out.af.there) (by rw [row_size]; exact info24) (row_one fun _ _ => rfl) ?_
        rw [show (row 32 (yv A2)).toArray.toList = row 32 (yv A2) from rfl]
        have G15 := hideit (G14.out.setAf A2)
        have B15 := hideit (B14.out.cellsOther (c := cA + 2) (by omega) (row 32 (yv A2)) 0)
        have K15 := KeepsOthers.setCells (cA + 2) (row 32 (yv A2)) 0 _ _ K14
        generalize w14.setCells (cA + 2) 0 (row 32 (yv A2)) = w15 at *
        clear G14 B14 K14
        refine wpList_nil ?_
        simp only [Act.put]
        change Code.wpIn (Fence.wide.inRound l) _ _ _ _ _ _
        have e1 := G15.out.box.1 0 (by decide)
        have hX16 : Ext w15 (w15.alloc (.cells #[.slice (some ⟨b, 0, none⟩) 512 c] 23)) := (Below.refl _ _).alloc (Nat.le_refl _) _
        have hN16 := hideit (lie_us w15 1 #[.slice (some ⟨b, 0, none⟩) 512 c] (fun _ => .slice (some ⟨b, 0, none⟩) 512 c) (fun j hj => by
          have : j = 0 := by omega
          subst this
          rfl) 23)
        have G16 := hideit (G15.out.carry hX16)
        have B16 := hideit (B15.out.carry hX16)
        have K16 := K15.trans (KeepsOthers.of_ext hX16)
        refine round_lit (by kernel_rfl) (fun h => by obtain ⟨_, _, h⟩ := h; exact h) ?_
        refine wpList_run rfl (cv) (by simp [go_sem, e1]) ?_
        simp only [Act.put, List.setIfInBounds_toArray, List.set_cons_zero, List.set_cons_succ]
        refine wpList_run rfl (.slice (some ⟨b, 0, none⟩) 512 c) (by simp [go_sem]) ?_
        simp only [Act.put, List.setIfInBounds_toArray, List.set_cons_zero, List.set_cons_succ]
        refine wpList_to rfl (.slice (some ⟨w15.heap.size, 0, none⟩) 1 1) (w15.alloc (.cells #[.slice (some ⟨b, 0, none⟩) 512 c] 23)) (by simp [go_sem]) ?_
        simp only [Act.put, List.setIfInBounds_toArray, List.set_cons_zero, List.set_cons_succ]
        generalize w15.alloc (.cells #[.slice (some ⟨b, 0, none⟩) 512 c] 23) = w16 at *
        generalize w15.heap.size = ab at *
        clear G15 B15 K15 hX16 e1
        have hs16 : cA + 3 ≤ w16.heap.size := by have := G16.out.af.2.2; omega
        refine wpList_growE (n := pre.length) (base := cA + 3) elem33b rfl (.tmp 63) (.tmp 65) rfl rfl G16.out.own ⟨ab, 0, none⟩ 1 1 (fun _ => .slice (some ⟨b, 0, none⟩) 512 c) (chV (fun i => if i = pre.length then b else nb i) (fun i => if i = pre.length then c else nc i)) rfl hN16.out (fun _ _ => rfl) (fun i hi => by
          unfold chV
          simp only [show ¬ i = pre.length by omega, if_false]) (fun i hi => by
          rw [show i = 0 by omega]
          unfold chV
          simp only [Nat.add_zero, if_true]) (by omega) (by omega) hs16 ?_
        intro v' Y hO' hg'
        have K17 : KeepsOthers W Y := K16.trans (KeepsOthers.of_grownBy hg' (own_cells G16.out.own))
        have G17 := hideit (G16.out.grow hk3.2 (by omega) hb3 hc5 B16.out hg' hO')
        have boxY : RowAt cA 1 (fun _ => cv) Y := by
          refine G16.out.box.grown hg' (own_ne G16.out.own G16.out.nil G16.out.box (by decide) (fun e => ?_))
          rcases (by omega : pre.length = 0 ∨ 0 < pre.length) with h0 | h0
          · have e2 : chV nb nc 0 = cv := e
            rw [G16.out.nil h0] at e2
            cases e2
          · obtain ⟨b', c', e', _⟩ := G16.out.own.lies h0
            have e2 : chV nb nc 0 = cv := e
            rw [e'] at e2
            injection e2 with _ e2 _
            omega
        obtain ⟨g', cap', rfl⟩ : ∃ g' cap', v' = .slice g' (pre.length + 1) cap' := by
          obtain ⟨b', c', e', _⟩ := hO'.lies (by omega)
          exact ⟨_, _, e'⟩
        simp only [Act.put, List.setIfInBounds_toArray, List.set_cons_zero, List.set_cons_succ]
        have e3 := boxY.1 0 (by decide)
        have e4 := boxY.2.1 0 (by decide)
        refine wpList_st rfl (Y.setCell ⟨cA, 0, none⟩ (.slice g' (pre.length + 1) cap')) (by simp [go_sem, e3, e4]) ?_
        refine wpList_nil ?_
        have K18 := K17.trans (KeepsOthers.setCell Y ⟨cA, 0, none⟩ (.slice g' (pre.length + 1) cap'))
        refine ⟨K18.from _, K18.walks, ?_, ?_⟩
        · rw [gL_snoc]
          exact ⟨hok.out, hokj⟩
        · refine ⟨.slice g' (pre.length + 1) cap', (fun i => if i = pre.length then b else nb i), (fun i => if i = pre.length then c else nc i), ?_⟩
          rw [gL_snoc, List.length_append, List.length_singleton]
          have hG := G17.out
          rw [hA2.out, haft.out] at hG
          refine ⟨hG.lt, hG.ext, hG.path, hG.r1, hG.r2, hG.r3, hG.box, hG.bf, hG.af, hG.own, hG.nil, fun i hi => ?_⟩
          obtain ⟨n1, n2, n3⟩ := hG.nodes i hi
          refine ⟨n1, n2, n3.congr fun t ht => ?_⟩
          unfold yv
          have hup : upL (pre ++ [(⟨jj, hjj⟩ : Lev k)]) = upL pre ++ [jj] := by unfold upL; rw [List.map_append]; rfl
          have hlen : (upL pre).length = pre.length := by unfold upL; rw [List.length_map]
          by_cases e : i = pre.length
          · subst e
            simp only [if_true]
            rw [hup, ← hlen, ctL_new]
          · simp only [e, if_false]
            rw [hup, ctL_old _ _ _ _ _ _ (by omega)]
  case done =>
    rename_i K hKK
    rintro D' xs W hD hS ⟨hok, cv, nb, nc, hG⟩ hK
    have hlen : xs.length = k := by
      have := congrArg List.length hS
      unfold upL at this
      rwa [List.length_map, List.length_range] at this
    rw [hS, hlen] at hG
    rw [hS] at hok
    obtain ⟨aft, haft⟩ : ∃ aft, aft = (gL leaf x bs (List.range k)).2.1 := ⟨_, rfl⟩
    rw [← haft] at hG
    refine hKK _ _ ?_
    clear hKK
    replace hok := hideit hok
    replace hG := hideit hG
    replace hK := hideit hK
    obtain ⟨R, hR⟩ : ∃ R, R = rootF n aft := ⟨_, rfl⟩
    have kr := root_any n aft W.drew (hC.out.ext (Ext.trans hG.out.ext (Ext.refl W).draw))
    rw [← hR] at kr
    have GD := hideit (hG.out.carry (Ext.refl W).draw)
    have KD : KeepsOthers W W.drew := KeepsOthers.drew W
    obtain ⟨vb, vc, hcv, -, -, -, -⟩ := hG.out.own.lies (by omega)
    go_upto_region 16 with (fail)
    refine wp_region_lad (fun X => RowAt cA 1 (fun _ => cv) X ∧ RowAt (cA + 2) 32 (yv aft) X) [(false, 0), (false, 1), (false, 2), (true, 3), (true, 4), (true, 5), (true, 6)] (by kernel_rfl) (by kernel_rfl) (by decide +kernel) (by decide +kernel) (by decide +kernel) (by decide +kernel) ⟨GD.out.box, GD.out.af⟩ ?_
    refine wpX_f _ (cv) rfl rfl (fun X hX => by have e := hX.1.1 0 (by decide); simp [go_sem, e]) ?_
    simp only [List.getElem_toArray, List.getElem_cons_zero, Act.put, List.setIfInBounds_toArray, List.set_cons_zero, List.set_cons_succ]
    refine wpX_f _ (.int .i64 (n : Int)) rfl rfl (fun X _ => by simp [go_sem]) ?_
    simp only [List.getElem_toArray, List.getElem_cons_zero, List.getElem_cons_succ, Act.put, List.setIfInBounds_toArray, List.set_cons_zero, List.set_cons_succ]
    refine wpX_f _ (.agg (row 32 (yv aft)).toArray) rfl rfl (fun X hX => exec_loadR 25 (.tmp 13) rfl (cA + 2) 0 32 _ rfl hX.2.range Tryd.underlying25 rfl info24) ?_
    simp only [List.getElem_toArray, List.getElem_cons_zero, List.getElem_cons_succ, Act.put, List.setIfInBounds_toArray, List.set_cons_zero, List.set_cons_succ]
    refine wpX_call _ rfl rfl (by simp [go_sem]) (kr.mono ?_)
    rintro e w9 ⟨rfl, hX9⟩
    have G9 := hideit (GD.out.carry hX9)
    have K9 := KD.trans (KeepsOthers.of_ext hX9)
    refine ⟨_, rfl, fun X => RowAt cA 1 (fun _ => cv) X ∧ RowAt (cA + 2) 32 (yv aft) X, fun X hX => hX, ⟨G9.out.box, G9.out.af⟩, ?_⟩
    simp only [List.getElem_toArray, List.getElem_cons_zero, List.getElem_cons_succ, Act.put, List.setIfInBounds_toArray, List.set_cons_zero, List.set_cons_succ]
    clear kr GD KD hX9 hG
    have hl5 := G9.out.lt
    have e1 := G9.out.r1.1 0 (by decide)
    have e2 := G9.out.r1.2.1 0 (by decide)
    subst hcv
    have Ra := (G9.out.r1.set 0 (.slice (some ⟨vb, 0, none⟩) k vc)).congr (g' := fun _ => .slice (some ⟨vb, 0, none⟩) k vc) fun t ht => by rw [if_pos (by omega)]
    have hB1 := but_setCell w9 (w.heap.size + 2) 0 (.slice (some ⟨vb, 0, none⟩) k vc)
    have Rb := G9.out.r2.but hB1 (by omega)
    have Rc := G9.out.r3.but hB1 (by omega)
    have Rx := G9.out.box.but hB1 (by omega)
    have Ry := G9.out.af.but hB1 (by omega)
    have Ro := G9.out.own.but hB1 (fun e => by have h9 := (G9.out.own.lt _ e).1; omega)
    have Rn := fun i hi => And.intro (G9.out.nodes i hi).1 (And.intro (G9.out.nodes i hi).2.1 ((G9.out.nodes i hi).2.2.but hB1 (by have := (G9.out.nodes i hi).1; omega)))
    have Re := Ext.but G9.out.ext hB1 (by omega)
    have Rk := K9.trans (KeepsOthers.setCell w9 ⟨w.heap.size + 2, 0, none⟩ (.slice (some ⟨vb, 0, none⟩) k vc))
    clear hB1 G9 K9
    refine wpX_st _ (w9.setCell ⟨w.heap.size + 2, 0, none⟩ (.slice (some ⟨vb, 0, none⟩) k vc)) rfl rfl (by simp [go_sem, e1, e2]) (fun X => RowAt cA 1 (fun _ => .slice (some ⟨vb, 0, none⟩) k vc) X ∧ RowAt (cA + 2) 32 (yv aft) X) (fun X hX => hX) ⟨Rx, Ry⟩ ?_
    simp only [List.getElem_toArray, List.getElem_cons_zero, List.getElem_cons_succ, Act.put]
    generalize w9.setCell ⟨w.heap.size + 2, 0, none⟩ (.slice (some ⟨vb, 0, none⟩) k vc) = w10 at *
    clear e1 e2
    have hB2 := But.sets (c := w.heap.size + 3) (row 32 (yv R)) 0 w10 (But.refl _ _)
    have Ra2 := Ra.but hB2 (by omega)
    have Rb2 := Rb.cells (g' := yv R)
    have Rc2 := Rc.but hB2 (by omega)
    have Rx2 := Rx.but hB2 (by omega)
    have Ry2 := Ry.but hB2 (by omega)
    have Ro2 := Ro.but hB2 (fun e => by have h9 := (Ro.lt _ e).1; omega)
    have Rn2 := fun i hi => And.intro (Rn i hi).1 (And.intro (Rn i hi).2.1 ((Rn i hi).2.2.but hB2 (by have := (Rn i hi).1; omega)))
    have Re2 := Ext.but Re hB2 (by omega)
    have Rk2 := KeepsOthers.setCells (w.heap.size + 3) (row 32 (yv R)) 0 _ _ Rk
    refine wpX_st _ (w10.setCells (w.heap.size + 3) 0 (row 32 (yv R))) rfl rfl (exec_storeR 25 (.tmp 9) (.tmp 70) rfl (w.heap.size + 3) 32 _ _ rfl rfl Rb info24 (fun _ _ => rfl)) (fun X => RowAt cA 1 (fun _ => .slice (some ⟨vb, 0, none⟩) k vc) X ∧ RowAt (cA + 2) 32 (yv aft) X) (fun X hX => hX) ⟨Rx2, Ry2⟩ ?_
    simp only [List.getElem_toArray, List.getElem_cons_zero, List.getElem_cons_succ, Act.put]
    generalize w10.setCells (w.heap.size + 3) 0 (row 32 (yv R)) = w11 at *
    clear hB2 Ra Rb Rc Rx Ry Ro Rn Re Rk
    have e3 := Rc2.1 0 (by decide)
    have e4 := Rc2.2.1 0 (by decide)
    have hB3 := but_setCell w11 (w.heap.size + 4) 0 (.int .i64 0)
    have Ra3 := Ra2.but hB3 (by omega)
    have Rb3 := Rb2.but hB3 (by omega)
    have Rc3 := (Rc2.set 0 (.int .i64 0)).congr (g' := fun _ => .int .i64 0) fun t ht => by rw [if_pos (by omega)]
    have Ro3 := Ro2.but hB3 (fun e => by have h9 := (Ro2.lt _ e).1; omega)
    have Rn3 := fun i hi => And.intro (Rn2 i hi).1 (And.intro (Rn2 i hi).2.1 ((Rn2 i hi).2.2.but hB3 (by have := (Rn2 i hi).1; omega)))
    have Re3 := Ext.but Re2 hB3 (by omega)
    have K3 := (Rk2.trans (KeepsOthers.setCell w11 ⟨w.heap.size + 4, 0, none⟩ (.int .i64 0))).same D' _ hK.out rfl
    have Rx3 := Rx2.but hB3 (by omega)
    have Ry3 := Ry2.but hB3 (by omega)
    refine wpX_st _ (w11.setCell ⟨w.heap.size + 4, 0, none⟩ (.int .i64 0)) rfl rfl (by simp [go_sem, e3, e4]) (fun X => RowAt cA 1 (fun _ => .slice (some ⟨vb, 0, none⟩) k vc) X ∧ RowAt (cA + 2) 32 (yv aft) X) (fun X hX => hX) ⟨Rx3, Ry3⟩ ?_
    generalize w11.setCell ⟨w.heap.size + 4, 0, none⟩ (.int .i64 0) = w12 at *
    refine wpX_nil ?_
    simp only [Act.put]
    go_wp2
    have f1 := (Ra3.put (o' := .deferred none) K3 rfl).1 0 (by decide)
    have f2 := Rb3.put (o' := .deferred none) K3 rfl
    have f3 := (Rc3.put (o' := .deferred none) K3 rfl).1 0 (by decide)
    have hown : OwnB w.heap.size 23 (.slice (some ⟨vb, 0, none⟩) k vc) k (chV nb nc) (w12.putObj D' (.deferred none)) := (Ro3.own (fun h => absurd h (by omega)) (grownBy_putObj' w12 D' (.deferred none)) (fun r e => by cases e; exact ⟨_, K3, rfl⟩)).down (by omega)
    refine postM_mark rfl K3 (v := .tuple #[.slice (some ⟨vb, 0, none⟩) k vc, .agg (row 32 (yv R)).toArray, .int .i64 0]) (ret_chg Tryd.results23 rfl rfl rfl f1 f2 f3) ?_
    refine .inl ⟨hok.out, _, by rw [← haft, ← hR], nb, nc, hown, fun i hi => ⟨by have := (Rn3 i hi).1; omega, (Rn3 i hi).2.1, (Rn3 i hi).2.2.put K3 rfl⟩, ext_put Re3 (by omega) K3⟩
  case stop =>
    rintro D' c pre W hD hS ⟨rfl, hno, hE, hRa, hRb, hRc⟩ hK
    refine wpIn_ret ?_
    have f1 := (hRa.put (o' := .deferred none) hK rfl).1 0 (by decide)
    have f2 := hRb.put (o' := .deferred none) hK rfl
    have f3 := (hRc.put (o' := .deferred none) hK rfl).1 0 (by decide)
    refine postM_mark rfl hK (v := .tuple #[.slice none 0 0, .agg (row 32 (yv fun _ => 0#8)).toArray, .int .i64 160]) (ret_chg Tryd.results23 rfl rfl rfl f1 f2 f3) ?_
    exact .inr ⟨gL_prefix hS hno, rfl, ext_put hE (by omega) hK⟩
end Go.Proofs.YtapmheocllicnaaDoor

namespace Go.Proofs.YtapmheocllicnaaDoor
open Go.RowKit Go.BigFrame
theorem gL_succ (leaf : Nat → BitVec 8) (x : Nat) (bs : Nat → Nat → BitVec 8) (q : Nat) : gL leaf x bs (List.range (q + 1)) = gst x bs (gL leaf x bs (List.range q)) q := by
  unfold gL
  rw [List.range_succ, List.foldl_append]
  rfl
theorem chg_all (n : Nat) (d : Nat → Nat → BitVec 8) (x : Nat) (lf : Nat → BitVec 8) (hx : x < n) : ∀ q, (gL lf x (pbs n d x) (List.range q)).2.2 ∧ (gL lf x (pbs n d x) (List.range q)).2.1 = digB n (dch d x lf) q (x / 16 ^ q) ∧ (0 < q → (gL lf x (pbs n d x) (List.range q)).1 = digB n d q (x / 16 ^ q))
  | 0 => ⟨trivial, by
      rw [Nat.pow_zero, Nat.div_one]
      show lf = dch d x lf x
      unfold dch
      rw [if_pos rfl], fun h => absurd h (by omega)⟩
  | q + 1 => by
    obtain ⟨h1, h2, h3⟩ := chg_all n d x lf hx q
    rw [gL_succ]
    refine ⟨⟨h1, fun h t ht => ?_⟩, ?_, fun _ => rfl⟩
    · rw [h3 h]
      exact pbs_child n d x q t hx ht
    · show nodeF _ (putF (pbs n d x q) (plc x q) (gL lf x (pbs n d x) (List.range q)).2.1) 512 = nodeF _ (pbs n (dch d x lf) x q) 512
      rw [h2]
      exact nodeF_congr _ _ _ _ fun j _ => (node_path n d x lf hx q j).symm
theorem chg_ok (n : Nat) (d : Nat → Nat → BitVec 8) (x : Nat) (lf : Nat → BitVec 8) (hx : x < n) (q : Nat) : (gL lf x (pbs n d x) (List.range q)).2.2 ∧ (gL lf x (pbs n d x) (List.range q)).2.1 = digB n (dch d x lf) q (x / 16 ^ q) := ⟨(chg_all n d x lf hx q).1, (chg_all n d x lf hx q).2.1⟩
theorem ct_at (n : Nat) (d : Nat → Nat → BitVec 8) (x : Nat) (lf : Nat → BitVec 8) (hx : x < n) (N i j : Nat) (hi : i < N) : ctL lf x (pbs n d x) (List.range N) i j = pbs n (dch d x lf) x i j := by
  unfold ctL
  rw [List.take_range, Nat.min_eq_left (by omega), List.getD_eq_getElem?_getD, List.getElem?_range hi, Option.getD_some, (chg_ok n d x lf hx i).2]
  exact (node_path n d x lf hx i j).symm
theorem chg_use {n x N : Nat} {lf : Nat → BitVec 8} (d : Nat → Nat → BitVec 8) {RT : Nat → BitVec 8} {w w' : World} {e : Ending} (hx : x < n) (h0 : 0 < N) (hok : (gL lf x (pbs n d x) (List.range N)).2.2) (hroot : rootF n (gL lf x (pbs n d x) (List.range N)).2.1 = RT)
    (h : ((gL lf x (pbs n d x) (List.range N)).2.2 ∧ ∃ cv nb nc, e = .returned (.tuple #[cv, .agg (row 32 (yv (rootF n (gL lf x (pbs n d x) (List.range N)).2.1))).toArray, .int .i64 0]) ∧ OwnB w.heap.size 23 cv N (chV nb nc) w' ∧ (∀ i, i < N → w.heap.size ≤ nb i ∧ 512 ≤ nc i ∧ RowAt (nb i) 512 (yv (ctL lf x (pbs n d x) (List.range N) i)) w') ∧ Ext w w') ∨
      (¬ (gL lf x (pbs n d x) (List.range N)).2.2 ∧ e = .returned (.tuple #[.slice none 0 0, .agg (row 32 (yv fun _ => 0#8)).toArray, .int .i64 160]) ∧ Ext w w')) :
    ∃ cv, e = .returned (.tuple #[cv, .agg (row 32 (yv RT)).toArray, .int .i64 0]) ∧ (∃ us, Parts cv N us (fun _ => 512) (pbs n (dch d x lf) x) w') ∧ Ext w w' := by
  rcases h with ⟨_, cv, nb, nc, he, hO, hn, hE⟩ | ⟨h, _⟩
  · refine ⟨cv, by rw [he, hroot], ⟨chV nb nc, ?_⟩, hE⟩
    obtain ⟨b, cap, rfl, _, hc, _, hr⟩ := hO.lies h0
    refine ⟨.inr ⟨_, cap, rfl, hc, hr.lie N (Nat.le_refl _)⟩, fun i hi => ?_⟩
    obtain ⟨_, n2, n3⟩ := hn i hi
    exact .inr ⟨_, nc i, rfl, n2, (n3.congr (g' := yv (pbs n (dch d x lf) x i)) fun j _ => by unfold yv; rw [ct_at n d x lf hx N i j hi]).lie 512 (Nat.le_refl _)⟩
  · exact absurd hok h
end Go.Proofs.YtapmheocllicnaaDoor
