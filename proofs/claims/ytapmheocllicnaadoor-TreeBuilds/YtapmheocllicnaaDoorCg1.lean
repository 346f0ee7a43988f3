/-
  Another leaf's digest on its way up: the changed path, and its root.
-/
import Derived.Test.YtapmheocllicnaaDoorPlc
import Derived.Test.YtapmheocllicnaaDoorRh
import Derived.Test.YtapmheocllicnaaDoorBld
import Derived.Test.YtapmheocllicnaaDoorSst
namespace Go.Proofs.YtapmheocllicnaaDoor
open Go.RowKit Go.BigFrame Go.Shelf
attribute [local go_sem] Oper.semAt_some
/-- on the way up: the digest of the node ahead as it was, that of the changed one, and whether all stood -/
def gst (x : Nat) (bs : Nat → Nat → BitVec 8) (s : (Nat → BitVec 8) × (Nat → BitVec 8) × Prop) (j : Nat) : (Nat → BitVec 8) × (Nat → BitVec 8) × Prop :=
  (nodeF (BitVec.ofNat 8 j) (bs j) 512, nodeF (BitVec.ofNat 8 j) (putF (bs j) (plc x j) s.2.1) 512, s.2.2 ∧ (0 < j → ∀ t, t < 32 → bs j (32 * plc x j + t) = s.1 t))
def gL (leaf : Nat → BitVec 8) (x : Nat) (bs : Nat → Nat → BitVec 8) (l : List Nat) : (Nat → BitVec 8) × (Nat → BitVec 8) × Prop := l.foldl (gst x bs) (fun _ => 0#8, leaf, True)
theorem gL_snoc {k : Nat} (leaf : Nat → BitVec 8) (x : Nat) (bs : Nat → Nat → BitVec 8) (pre : List (Lev k)) (j : Lev k) : gL leaf x bs (upL (pre ++ [j])) = gst x bs (gL leaf x bs (upL pre)) j.1 := by
  unfold gL upL
  rw [List.map_append, List.foldl_append]
  rfl
theorem gst_mono (x : Nat) (bs : Nat → Nat → BitVec 8) : ∀ (l : List Nat) (s : (Nat → BitVec 8) × (Nat → BitVec 8) × Prop), (l.foldl (gst x bs) s).2.2 → s.2.2
  | [], _, h => h
  | _ :: l, _, h => (gst_mono x bs l _ h).1
theorem gL_prefix {leaf : Nat → BitVec 8} {x : Nat} {bs : Nat → Nat → BitVec 8} {l l' : List Nat} (h : l <+: l') (hl : ¬ (gL leaf x bs l).2.2) : ¬ (gL leaf x bs l').2.2 := by
  obtain ⟨r, rfl⟩ := h
  unfold gL at *
  rw [List.foldl_append]
  exact fun h => hl (gst_mono x bs r _ h)
/-- what the changed nodes hold -/
def ctL (leaf : Nat → BitVec 8) (x : Nat) (bs : Nat → Nat → BitVec 8) (l : List Nat) (i : Nat) : Nat → BitVec 8 := putF (bs (l.getD i 0)) (plc x (l.getD i 0)) (gL leaf x bs (l.take i)).2.1
theorem ctL_old (leaf : Nat → BitVec 8) (x : Nat) (bs : Nat → Nat → BitVec 8) (l : List Nat) (j i : Nat) (hi : i < l.length) : ctL leaf x bs (l ++ [j]) i = ctL leaf x bs l i := by
  unfold ctL
  rw [List.take_append_of_le_length (by omega), List.getD_eq_getElem?_getD, List.getD_eq_getElem?_getD, List.getElem?_append_left hi]
theorem ctL_new (leaf : Nat → BitVec 8) (x : Nat) (bs : Nat → Nat → BitVec 8) (l : List Nat) (j : Nat) : ctL leaf x bs (l ++ [j]) l.length = putF (bs j) (plc x j) (gL leaf x bs l).2.1 := by
  unfold ctL
  rw [List.take_left' rfl, List.getD_eq_getElem?_getD, List.getElem?_append_right (Nat.le_refl _), Nat.sub_self]
  rfl
def chV (nb nc : Nat → Nat) (i : Nat) : Value := .slice (some ⟨nb i, 0, none⟩) 512 (nc i)
/-- how a Change stands on its way -/
structure GI (w : World) (cA k : Nat) (pa : Addr) (cap : Nat) (q : Nat) (bef aft : Nat → BitVec 8) (cv : Value) (nb nc : Nat → Nat) (ct : Nat → Nat → BitVec 8) (W : World) : Prop where
  lt : w.heap.size + 5 ≤ cA
  ext : Ext w W
  path : RowAt (w.heap.size + 1) 1 (fun _ => .slice (some pa) k cap) W
  r1 : RowAt (w.heap.size + 2) 1 (fun _ => .slice none 0 0) W
  r2 : RowAt (w.heap.size + 3) 32 (yv fun _ => 0#8) W
  r3 : RowAt (w.heap.size + 4) 1 (fun _ => .int .i64 0) W
  box : RowAt cA 1 (fun _ => cv) W
  bf : RowAt (cA + 1) 32 (yv bef) W
  af : RowAt (cA + 2) 32 (yv aft) W
  own : OwnB (cA + 3) 23 cv q (chV nb nc) W
  nil : q = 0 → cv = .slice none 0 0
  nodes : ∀ i, i < q → cA + 3 ≤ nb i ∧ 512 ≤ nc i ∧ RowAt (nb i) 512 (yv (ct i)) W
section
variable {w : World} {cA k : Nat} {pa : Addr} {cap q : Nat} {bef aft : Nat → BitVec 8} {cv : Value} {nb nc : Nat → Nat} {ct : Nat → Nat → BitVec 8} {W Y : World}
theorem GI.carry (h : GI w cA k pa cap q bef aft cv nb nc ct W) (e : Ext W Y) : GI w cA k pa cap q bef aft cv nb nc ct Y :=
  ⟨h.lt, Ext.trans h.ext e, h.path.carry e, h.r1.carry e, h.r2.carry e, h.r3.carry e, h.box.carry e, h.bf.carry e, h.af.carry e, h.own.ext e, h.nil, fun i hi => ⟨(h.nodes i hi).1, (h.nodes i hi).2.1, (h.nodes i hi).2.2.carry e⟩⟩
theorem OwnB.own {base : Nat} {e : TypeId} {v : Value} {n : Nat} {g : Nat → Value} {r : Option Nat} (h : OwnB base e v n g W) (h0 : n = 0 → v = .slice none 0 0) (hg : W.grownBy Y r) (hr : ∀ k, r = some k → ∃ o : Obj, W.heap[k]? = some o ∧ o.isCells = false) : OwnB base e v n g Y := by
  refine h.kept hg ?_
  rcases (by omega : n = 0 ∨ 0 < n) with hn | hn
  · rw [h0 hn]
    exact .inl rfl
  · obtain ⟨b, cap, rfl, _, _, _, hR⟩ := h.lies hn
    right
    intro e
    obtain ⟨o, ho, hc⟩ := hr b e.symm
    obtain ⟨o', ho', hc'⟩ := cells_of_cell (hR.1 0 hn)
    rw [ho] at ho'
    cases ho'
    rw [hc] at hc'
    cases hc'
theorem GI.ownG {r : Option Nat} (h : GI w cA k pa cap q bef aft cv nb nc ct W) (hg : W.grownBy Y r) (hr : ∀ k, r = some k → w.heap.size ≤ k ∧ ∃ o : Obj, W.heap[k]? = some o ∧ o.isCells = false) : GI w cA k pa cap q bef aft cv nb nc ct Y :=
  have h2 := fun k e => (hr k e).2
  ⟨h.lt, Below.grown h.ext hg (Below.size h.ext) fun k e => (hr k e).1, h.path.own hg h2, h.r1.own hg h2, h.r2.own hg h2, h.r3.own hg h2, h.box.own hg h2, h.bf.own hg h2, h.af.own hg h2, h.own.own h.nil hg h2, h.nil, fun i hi => ⟨(h.nodes i hi).1, (h.nodes i hi).2.1, (h.nodes i hi).2.2.own hg h2⟩⟩
/-- one of its rows is set: all the others stand -/
theorem GI.but {c : Nat} (h : GI w cA k pa cap q bef aft cv nb nc ct W) (hB : But c W Y) (hc : cA + 3 ≤ c) (hn : ∀ i, i < q → nb i ≠ c) (ho : cv.ownBlock ≠ some c) : GI w cA k pa cap q bef aft cv nb nc ct Y :=
  have hl := h.lt
  ⟨h.lt, Ext.but h.ext hB (by omega), h.path.but hB (by omega), h.r1.but hB (by omega), h.r2.but hB (by omega), h.r3.but hB (by omega), h.box.but hB (by omega), h.bf.but hB (by omega), h.af.but hB (by omega), h.own.but hB ho, h.nil, fun i hi => ⟨(h.nodes i hi).1, (h.nodes i hi).2.1, (h.nodes i hi).2.2.but hB (hn i hi)⟩⟩
theorem GI.setBf (h : GI w cA k pa cap q bef aft cv nb nc ct W) (b' : Nat → BitVec 8) : GI w cA k pa cap q b' aft cv nb nc ct (W.setCells (cA + 1) 0 (row 32 (yv b'))) :=
  have hl := h.lt
  ⟨h.lt, below_setCells _ (by omega) _ _ _ h.ext, h.path.cellsOther (by omega) _ _, h.r1.cellsOther (by omega) _ _, h.r2.cellsOther (by omega) _ _, h.r3.cellsOther (by omega) _ _, h.box.cellsOther (by omega) _ _, h.bf.cells, h.af.cellsOther (by omega) _ _, h.own.but (But.sets _ _ _ (But.refl _ _)) (fun e => by have := (h.own.lt _ e).1; omega), h.nil, fun i hi => ⟨(h.nodes i hi).1, (h.nodes i hi).2.1, (h.nodes i hi).2.2.cellsOther (by have := (h.nodes i hi).1; omega) _ _⟩⟩
theorem GI.setAf (h : GI w cA k pa cap q bef aft cv nb nc ct W) (b' : Nat → BitVec 8) : GI w cA k pa cap q bef b' cv nb nc ct (W.setCells (cA + 2) 0 (row 32 (yv b'))) :=
  have hl := h.lt
  ⟨h.lt, below_setCells _ (by omega) _ _ _ h.ext, h.path.cellsOther (by omega) _ _, h.r1.cellsOther (by omega) _ _, h.r2.cellsOther (by omega) _ _, h.r3.cellsOther (by omega) _ _, h.box.cellsOther (by omega) _ _, h.bf.cellsOther (by omega) _ _, h.af.cells, h.own.but (But.sets _ _ _ (But.refl _ _)) (fun e => by have := (h.own.lt _ e).1; omega), h.nil, fun i hi => ⟨(h.nodes i hi).1, (h.nodes i hi).2.1, (h.nodes i hi).2.2.cellsOther (by have := (h.nodes i hi).1; omega) _ _⟩⟩
/-- a node more: the list has grown, and lies in its box again -/
theorem GI.grow {b c : Nat} {nd : Nat → BitVec 8} {v' : Value} (h : GI w cA k pa cap q bef aft cv nb nc ct W) (hk : k ≤ 3) (hq : q < 100) (hb : cA + 3 ≤ b) (hc : 512 ≤ c) (hR : RowAt b 512 (yv nd) W) (hg : W.grownBy Y cv.ownBlock)
    (hO : OwnB (cA + 3) 23 v' (q + 1) (chV (fun i => if i = q then b else nb i) (fun i => if i = q then c else nc i)) Y) :
    GI w cA k pa cap (q + 1) bef aft v' (fun i => if i = q then b else nb i) (fun i => if i = q then c else nc i) (fun i => if i = q then nd else ct i) (Y.setCell ⟨cA, 0, none⟩ v') := by
  have hl := h.lt
  have g0 : ∀ (b m : Nat) (f : Nat → Value), RowAt b m f W → 0 < m → (∀ A c, f 0 ≠ .slice (some A) 512 c) → RowAt b m f Y := fun b m f hr hm hne =>
    hr.grown hg (own_ne h.own h.nil hr hm (fun e => hne ⟨nb 0, 0, none⟩ (nc 0) (by rw [← e]; rfl)))
  have hcv : ∀ A c, cv ≠ .slice (some A) 512 c := fun A c e => by
    rcases (by omega : q = 0 ∨ 0 < q) with h0 | h0
    · rw [h.nil h0] at e; cases e
    · obtain ⟨b', c', e', _⟩ := h.own.lies h0
      rw [e'] at e
      injection e with _ e _
      omega
  have o : ∀ (b m : Nat) (f : Nat → Value), RowAt b m f Y → b ≠ cA → RowAt b m f (Y.setCell ⟨cA, 0, none⟩ v') := fun b m f hr hne => hr.other _ _ (Ne.symm hne)
  have i1 : ∀ (z : Int) (A : Addr) (c : Nat), Value.int .i64 z ≠ .slice (some A) 512 c := fun _ _ _ e => by cases e
  refine ⟨hl, ?_, o _ _ _ (g0 _ _ _ h.path (by decide) (fun A c e => by injection e with _ e _; omega)) (by omega), o _ _ _ (g0 _ _ _ h.r1 (by decide) (fun A c e => by cases e)) (by omega), o _ _ _ (g0 _ _ _ h.r2 (by decide) (fun A c e => by cases e)) (by omega), o _ _ _ (g0 _ _ _ h.r3 (by decide) (i1 0)) (by omega), ?_, o _ _ _ (g0 _ _ _ h.bf (by decide) (fun A c e => by cases e)) (by omega), o _ _ _ (g0 _ _ _ h.af (by decide) (fun A c e => by cases e)) (by omega), ?_, fun e => absurd e (by omega), fun i hi => ?_⟩
  · exact Below.setCell (p := ⟨cA, 0, none⟩) (grownE h.ext h.own (by omega) hg) (by show w.heap.size ≤ cA; omega) _
  · exact ((g0 _ _ _ h.box (by decide) hcv).set 0 v').congr fun t ht => by rw [if_pos (by omega)]
  · exact hO.other ⟨cA, 0, none⟩ (fun e => by have h9 : cA + 3 ≤ cA := (hO.lt _ e).1; omega) _
  · by_cases e : i = q
    · subst e
      simp only [if_true]
      exact ⟨hb, hc, o _ _ _ (g0 _ _ _ hR (by decide) (fun A c e => by cases e)) (by omega)⟩
    · simp only [e, if_false]
      have hn := h.nodes i (by omega)
      exact ⟨hn.1, hn.2.1, o _ _ _ (g0 _ _ _ hn.2.2 (by decide) (fun A c e => by cases e)) (by omega)⟩
end
theorem own_cells {base : Nat} {e : TypeId} {v : Value} {n : Nat} {g : Nat → Value} {W : World} (h : OwnB base e v n g W) : ∀ (j : Nat) (o : Obj), v.ownBlock = some j → W.heap[j]? = some o → o.isCells = true := fun j o hj ho => by
  obtain ⟨_, h⟩ := h
  rcases h with ⟨rfl, _⟩ | ⟨b, cap, cur, rfl, _, hb, _⟩
  · cases hj
  · injection hj with hj
    subst hj
    rw [hb] at ho
    cases ho
    rfl
theorem chg_mem (w : World) (leaf : Nat → BitVec 8) (pv : Value) : RowAt w.heap.size 32 (yv leaf) (((((w.alloc (.cells (row 32 (yv leaf)).toArray 25)).alloc (.cells #[pv] 33)).alloc (.cells #[.slice none 0 0] 33)).alloc (.cells (row 32 (yv fun _ => 0#8)).toArray 25)).alloc (.cells #[.int .i64 0] 26)) ∧ RowAt (w.heap.size + 1) 1 (fun _ => pv) (((((w.alloc (.cells (row 32 (yv leaf)).toArray 25)).alloc (.cells #[pv] 33)).alloc (.cells #[.slice none 0 0] 33)).alloc (.cells (row 32 (yv fun _ => 0#8)).toArray 25)).alloc (.cells #[.int .i64 0] 26)) ∧ RowAt (w.heap.size + 2) 1 (fun _ => .slice none 0 0) (((((w.alloc (.cells (row 32 (yv leaf)).toArray 25)).alloc (.cells #[pv] 33)).alloc (.cells #[.slice none 0 0] 33)).alloc (.cells (row 32 (yv fun _ => 0#8)).toArray 25)).alloc (.cells #[.int .i64 0] 26)) ∧ RowAt (w.heap.size + 3) 32 (yv fun _ => 0#8) (((((w.alloc (.cells (row 32 (yv leaf)).toArray 25)).alloc (.cells #[pv] 33)).alloc (.cells #[.slice none 0 0] 33)).alloc (.cells (row 32 (yv fun _ => 0#8)).toArray 25)).alloc (.cells #[.int .i64 0] 26)) ∧ RowAt (w.heap.size + 4) 1 (fun _ => .int .i64 0) (((((w.alloc (.cells (row 32 (yv leaf)).toArray 25)).alloc (.cells #[pv] 33)).alloc (.cells #[.slice none 0 0] 33)).alloc (.cells (row 32 (yv fun _ => 0#8)).toArray 25)).alloc (.cells #[.int .i64 0] 26)) ∧ Ext w (((((w.alloc (.cells (row 32 (yv leaf)).toArray 25)).alloc (.cells #[pv] 33)).alloc (.cells #[.slice none 0 0] 33)).alloc (.cells (row 32 (yv fun _ => 0#8)).toArray 25)).alloc (.cells #[.int .i64 0] 26)) ∧ (((((w.alloc (.cells (row 32 (yv leaf)).toArray 25)).alloc (.cells #[pv] 33)).alloc (.cells #[.slice none 0 0] 33)).alloc (.cells (row 32 (yv fun _ => 0#8)).toArray 25)).alloc (.cells #[.int .i64 0] 26)).heap.size = w.heap.size + 5 := by
  have one : ∀ (W : World) (u : Value) (t : TypeId), RowAt W.heap.size 1 (fun _ => u) (W.alloc (.cells #[u] t)) := fun W u t => RowAt.newOf W 1 _ t #[u] (fun j hj => by
    have : j = 0 := by omega
    subst this
    rfl)
  have h1 := RowAt.new w 32 (yv leaf) 25
  have h2 := one (w.alloc (.cells (row 32 (yv leaf)).toArray 25)) pv 33
  have h3 := one ((w.alloc (.cells (row 32 (yv leaf)).toArray 25)).alloc (.cells #[pv] 33)) (.slice none 0 0) 33
  have h4 := RowAt.new (((w.alloc (.cells (row 32 (yv leaf)).toArray 25)).alloc (.cells #[pv] 33)).alloc (.cells #[.slice none 0 0] 33)) 32 (yv fun _ => 0#8) 25
  have h5 := one ((((w.alloc (.cells (row 32 (yv leaf)).toArray 25)).alloc (.cells #[pv] 33)).alloc (.cells #[.slice none 0 0] 33)).alloc (.cells (row 32 (yv fun _ => 0#8)).toArray 25)) (.int .i64 0) 26
  simp only [World.size_alloc, Nat.add_assoc, Nat.reduceAdd] at h1 h2 h3 h4 h5
  refine ⟨(((h1.alloc _).alloc _).alloc _).alloc _, ((h2.alloc _).alloc _).alloc _, (h3.alloc _).alloc _, h4.alloc _, h5, ?_, by simp⟩
  exact (((((Below.refl _ w).alloc (Nat.le_refl _) _).alloc (by simp) _).alloc (by simp; omega) _).alloc (by simp; omega) _).alloc (by simp; omega) _
end Go.Proofs.YtapmheocllicnaaDoor
