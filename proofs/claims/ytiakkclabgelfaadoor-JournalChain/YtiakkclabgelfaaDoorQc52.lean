/-
  A step of a law of journals. How redos and blocks that came in read.
-/
import Derived.Test.YtiakkclabgelfaaDoorQc50
import Derived.Test.YtiakkclabgelfaaDoorQc51
import Derived.Test.YtiakkclabgelfaaDoorQc40
import Derived.Test.YtiakkclabgelfaaDoorQc12
import Derived.Deep.Slices
namespace Go.Proofs.YtiakkclabgelfaaDoor
open Go.RowKit Go.BigFrame Go.Maps
set_option linter.unusedVariables false
set_option maxRecDepth 20000
theorem JR.keepG {j p fi co us N C : Nat} {nu : BitVec 64} {bg : Bool} {F G : Nat → Prop} {A D : Nat → Nat → BitVec 8} {X Y : World} (h : JR j p fi co nu us bg F N A D C X) (k : Keeps G X Y) (hF : ∀ i, F i → ¬ G i) (hj : ¬ G j) (hnb : ∀ i, G i → ¬ IsB i X) : JR j p fi co nu us bg F N A D C Y :=
  ⟨h.row.keep k hj, isB_keep h.nb h.row.2.2 k hj, h.nf, h.dv.keep k hF hnb, h.co1, h.co2, h.ar⟩
theorem nx_succ {nx : BitVec 64} (h : nx.toNat ≤ 1000) : (nx + 1).toNat = nx.toNat + 1 := by
  rw [BitVec.toNat_add]
  show (nx.toNat + 1) % 2 ^ 64 = _
  omega
section
variable {w X Y Z : World} {j p k m9 K C n : Nat} {nx n0 : BitVec 64} {av v2 : Value} {tn : Nat → Nat} {tb : Nat → Nat → Int} {tl : Nat → Nat → Nat} {tf : Nat → Nat → Nat → BitVec 8} {us us2 : Nat → Value} {F F' : Nat → Prop} {A D A' : Nat → Nat → BitVec 8} {bs : Nat → Int} {ls : Nat → Nat} {fs : Nat → Nat → BitVec 8}
theorem CS.mid (h : CS w j p k nx m9 av n0 K tn tb tl tf us F A D C X) (hk : Keeps (fun i => F i ∨ i = j) X Y) (hs : ∀ b, F' b → F b ∨ X.heap.size ≤ b) : OwnK 2 w.heap.size 47 av m9 (rdC (caN 0 tn tb K) us) Y ∧ Ext w Y ∧ (∀ b, av.ownBlock = some b → ¬ F' b ∧ b ≠ j) ∧ ∀ i, F' i → w.heap.size ≤ i :=
  ⟨h.own.keep hk fun b hb e => by
    rcases e with e | e
    · exact (h.sep b hb).1 e
    · exact (h.sep b hb).2 e,
  keep_ext h.ex hk fun i hi => by
    rcases hi with e | e
    · exact h.fr i e
    · exact e ▸ h.jl,
  fun b hb => ⟨fun e => by
    rcases hs b e with q | q
    · exact (h.sep b hb).1 q
    · have := (h.own.lt b hb).2
      omega, (h.sep b hb).2⟩,
  fun i hi => by
    rcases hs i hi with q | q
    · exact h.fr i q
    · exact Nat.le_trans (Below.size h.ex) q⟩
theorem CS.fin (h : CS w j p k nx m9 av n0 K tn tb tl tf us F A D C X) (hk9 : k < 100) (hok : okT nx n bs ls fs) (hnf : ¬ fgL 0 30 60 n bs) (hle : n ≤ rmN 30 (ofN tn K) true) (hp : ∀ i, i < n → PV (us2 i) (ls i) (fs i) w ∧ ls i ≤ 140737488355328)
    (hJ : JR j p 0 30 (nx + 1) (ofN tn K + (n + 2)) true F' 60 A' (apD D (0 + 1 + ofN tn K) n (trF nx (tmK ls fs n) n bs fs)) (C + (n + 2)) Y) (hk : Keeps (fun i => F i ∨ i = j) X Y) (hs : ∀ b, F' b → F b ∨ X.heap.size ≤ b)
    (hO : OwnK 2 w.heap.size 47 v2 (m9 + n) (rdC (catN m9 (caN 0 tn tb K) bs) (catN m9 us us2)) Z) (hg : Y.grownBy Z av.ownBlock) (ho : v2.ownBlock = av.ownBlock ∨ v2.ownBlock = some Y.heap.size) :
    CS w j p (k + 1) (nx + 1) (m9 + n) v2 n0 (K + 1) (up1 tn K n) (up1 tb K bs) (up1 tl K ls) (up1 tf K fs) (catN m9 us us2) F' A' (apD D (0 + 1 + ofN tn K) n (trF nx (tmK ls fs n) n bs fs)) (C + (n + 2)) Z := by
  obtain ⟨q1, q2, q3, q4⟩ := h.mid hk hs
  have n64 := hok.1.2.2.1
  have hrm : ofN tn K + (n + 2) ≤ 29 := by
    have := hok.1.2.1
    unfold rmN moN at hle
    rw [if_pos rfl] at hle
    omega
  have hnx := nx_succ (nx := nx) (by have := h.hi; omega)
  have kG : Keeps (fun i => av.ownBlock = some i) Y Z := Keeps.of_grown hg fun b hb => .inl hb
  have hchn := h.chn
  have hn0 := h.enx
  have hm := h.em
  subst hm
  refine ⟨?_, ?_, ?_, ?_, q4, ?_, ?_, fun b hb => ?_, h.jl, fun i hi => ?_, by have := h.lo; omega, by have := h.hi; omega, by have := h.cn; omega⟩
  · rw [hn0] at hok ⊢
    exact hchn.add hok hnf hrm (by rw [nuK_succ, ← hn0]; exact hnx)
  · rw [ofN_up]
    exact hJ.keepG kG (fun i hi e => (q3 i e).1 hi) (fun e => (q3 j e).2 rfl) fun i e => own_nb q1 e
  · rw [nuK_succ, ← hn0]
  · rw [smN_up]
  · exact keep_ext q2 kG fun i hi => (q1.lt i hi).1
  · rw [caN_up]
    exact hO
  · rcases ho with e | e
    · rw [e] at hb
      exact q3 b hb
    · rw [e] at hb
      injection hb with hb
      subst hb
      exact ⟨fun e => Nat.lt_irrefl _ (hJ.dv.lt _ e), fun e => by have := hJ.row.2.2; omega⟩
  · rw [caN_up, caN_up]
    by_cases e : i < smN tn K
    · rw [catN_lo _ _ e, catN_lo _ _ e, catN_lo _ _ e]
      exact h.byt i e
    · rw [catN_hi _ _ (by omega), catN_hi _ _ (by omega), catN_hi _ _ (by omega)]
      exact hp _ (by omega)
theorem CS.rst (h : CS w j p k nx m9 av n0 K tn tb tl tf us F A D C X) (hJ : JR j p 0 30 nx 0 true F' 60 A' (wrN D 0 (fun _ => markF nx) 1) (C + 1) Y) (hk : Keeps (fun i => F i ∨ i = j) X Y) (hs : ∀ b, F' b → F b ∨ X.heap.size ≤ b) :
    CS w j p (k + 1) nx 0 (.slice none 0 0) nx 0 tn tb tl tf us F' A' (wrN D 0 (fun _ => markF nx) 1) (C + 1) Y := by
  obtain ⟨q1, q2, q3, q4⟩ := h.mid hk hs
  have hz : nx ≠ 0#64 := fun e => by
    have := h.lo
    rw [e] at this
    exact absurd this (by decide)
  have hc := h.chn.reset (tn' := tn) (tb' := tb) (tl' := tl) (tf' := tf) (by rw [← h.enx]; exact hz)
  rw [← h.enx] at hc
  exact ⟨hc, hJ, (nuK_zero _).symm, rfl, q4, q2, ownK_nil _ _ _ _ _, fun b hb => (by cases hb), h.jl, fun i hi => absurd hi (Nat.not_lt_zero _), h.lo, by have := h.hi; omega, by have := h.cn; omega⟩
end
end Go.Proofs.YtiakkclabgelfaaDoor
namespace Go.Proofs.YtiakkclabgelfaaDoor
set_option maxRecDepth 20000
open Go.ChangeShapes Go.WideShapes Go.ChangeAt Go.RowKit
theorem weightsAll_mem {H : Type} {P : Program} {e : TypeId} : ∀ {l : List (DataW H)} {d : DataW H}, d ∈ l → ∀ n ∈ d.weights P e, n ∈ DataW.weightsAll P e l
  | d0 :: r, d, h, n, hn => by
    simp only [DataW.weightsAll, List.mem_append]
    rcases List.mem_cons.1 h with rfl | h
    · exact .inl hn
    · exact .inr (weightsAll_mem h n hn)
theorem trod_stW {H : Type} {enc : TypeId × Value → H} {P : Program} {w : World} {base : Nat} {spare : Nat → Bool} {held : Bool} {t : TypeId} {fs : List Field} {fuel : Nat} {cs : List Value} {x : DataW H × List MemPlace} (ht : P.underlying t = some (.struct fs.toArray)) (h : DataW.trod enc P w base spare held fuel t cs = some x) :
    ∃ n, cs.length = P.cellsOf t ∧ ∀ (i : Nat) (f : Field), fs[i]? = some f → ∃ y, DataW.trod enc P w base spare held n f.type ((cs.drop f.offset).take (P.cellsOf f.type)) = some y ∧ ∀ m ∈ y.1.weights P f.type, m ∈ x.1.weights P t := by
  obtain ⟨xs, n, _, hx, hl, hlen, hf⟩ := DataW.trod_struct ht h
  refine ⟨n, hl, fun i f hi => ?_⟩
  have hi2 : fs.toArray[i]? = some f := by simpa using hi
  have hlt : i < xs.length := by
    have := (List.getElem?_eq_some_iff.1 hi).1
    simp at hlen
    omega
  refine ⟨xs[i], by rw [hf i f hi2, List.getElem?_eq_getElem hlt], fun m hm => ?_⟩
  rw [hx]
  simp only [DataW.weights, ht]
  exact DataW.weights_mem_each (j := i) (by simp [hi]) (by simp [hlt]) m hm
set_option maxRecDepth 100000 in
theorem open_pieceW {H : Type} {enc : TypeId × Value → H} {W : World} {base : Nat} {spare : Nat → Bool} {held : Bool} {n : Nat} {cs : List Value} {x : DataW H × List MemPlace} (h : DataW.trod enc Tryd.prog W base spare held n 39 cs = some x) (hw : ∀ m ∈ x.1.weights Tryd.prog 39, m ≤ reachBytes) :
    ∃ u l b, cs = [u] ∧ PV u l b W ∧ l ≤ reachBytes := by
  rcases open_ints Tryd.underlying39 Tryd.underlying5 (by kernel_rfl) h with ⟨hcs, hx⟩ | ⟨a, len, cap, zs, hcs, _, hl, hm, hz, hd, hcell, hwz⟩
  · exact ⟨.slice none 0 0, 0, fun _ => 0#8, hcs, .inl ⟨rfl, rfl⟩, Nat.zero_le _⟩
  · have hlen : len ≤ zs.length := by rw [hz]; split <;> omega
    have hall : ∀ i, i < len → ∃ c : BitVec 8, zs.getD i 0 = (c.toNat : Int) := fun i hi => by
      refine of_wf8 (hwz _ ?_)
      rw [List.getD_eq_getElem?_getD, List.getElem?_eq_getElem (by omega), Option.getD_some]
      exact List.getElem_mem _
    refine ⟨.slice (some a) len cap, len, fun i => if h : i < len then (hall i h).choose else 0#8, hcs, .inr ⟨a, cap, rfl, hl, fun j hj => ?_⟩, ?_⟩
    · rw [hcell j (by omega)]
      simp only [yv, dif_pos hj]
      rw [← (hall j hj).choose_spec]
    · have b5 : Tryd.prog.bytesOf 5 = 1 := by kernel_rfl
      have h1 := hw (((lits .u8 (zs.take len)).length (α := DataW H) + (lits .u8 (zs.drop len)).length (α := DataW H)) * Tryd.prog.bytesOf 5) (by rw [hd]; simp [DataW.weights, Tryd.underlying39])
      rw [b5] at h1
      simp [lits] at h1
      omega
set_option maxRecDepth 100000 in
theorem redo_cellsW {H : Type} {enc : TypeId × Value → H} {W : World} {base : Nat} {spare : Nat → Bool} {held : Bool} {n : Nat} {cs : List Value} {x : DataW H × List MemPlace} (h : DataW.trod enc Tryd.prog W base spare held n 47 cs = some x) (hw : ∀ m ∈ x.1.weights Tryd.prog 47, m ≤ reachBytes) :
    ∃ (k : Int) (u : Value), cs = [.int .i64 k, u] ∧ okI k ∧ (∃ l b, PV u l b W ∧ l ≤ reachBytes) := by
  have c3 : Tryd.prog.cellsOf 3 = 1 := by kernel_rfl
  have c34 : Tryd.prog.cellsOf 39 = 1 := by kernel_rfl
  have c51 : Tryd.prog.cellsOf 47 = 2 := by kernel_rfl
  obtain ⟨mm, hl, hf⟩ := trod_stW (fs := [_, _]) Tryd.underlying47 h
  obtain ⟨y0, h0, _⟩ := hf 0 _ rfl
  obtain ⟨y1, h1, w1⟩ := hf 1 _ rfl
  rw [c51] at hl
  match cs, hl with
  | [v0, v1], _ =>
    simp only [c3, c34, List.drop_succ_cons, List.drop_zero, List.take_succ_cons, List.take_zero] at h0 h1
    obtain ⟨k, e0, _, w0⟩ := DataW.trod_int Tryd.underlying3 h0
    obtain ⟨u, l, b, e1, hp, hl⟩ := open_pieceW h1 fun n hn => hw n (w1 n hn)
    simp only [List.cons.injEq, and_true] at e0 e1
    subst e0 e1
    exact ⟨k, _, rfl, w0, l, b, hp, hl⟩
def RArg (v : Value) (W : World) : Prop := ∃ n bs us ls fs, RLs v n bs us ls fs W ∧ (∀ i, i < n → okI (bs i)) ∧ n ≤ 4398046511104
set_option maxRecDepth 100000 in
theorem rargW {H : Type} {enc : TypeId × Value → H} {W : World} {base : Nat} {spare : Nat → Bool} {held : Bool} {n0 : Nat} {cs : List Value} {z : DataW H × List MemPlace} (hf : DataW.trod enc Tryd.prog W base spare held n0 22 cs = some z) (hall : ∀ n ∈ z.1.weights Tryd.prog 22, n ≤ reachBytes) : ∃ v, cs = [v] ∧ RArg v W := by
  have hC : Tryd.prog.cellsOf 47 = 2 := by kernel_rfl
  have hB : Tryd.prog.bytesOf 47 = 32 := by kernel_rfl
  rcases Go.Deep.open_slice Tryd.underlying22 hf with ⟨hcs, _⟩ | ⟨x, len, cap, m, n, D, Pl, hcs, _, hl, hm, hmm, hdx, hx⟩
  · exact ⟨_, hcs, 0, fun _ => 0, fun _ => undef, fun _ => 0, fun _ _ => 0#8, ⟨.inl ⟨rfl, rfl⟩, fun i hi => by omega⟩, fun i hi => by omega, by decide⟩
  · refine ⟨_, hcs, ?_⟩
    have hdx' : z.1 = .slice ((List.range len).map D) ((List.range (m - len)).map fun j => D (len + j)) := congrArg Prod.fst hdx
    have hnn : len ≤ 4398046511104 := by
      have h1 := hall ((((List.range len).map D).length + ((List.range (m - len)).map fun j => D (len + j)).length) * Tryd.prog.bytesOf 47) (by rw [hdx']; simp [DataW.weights, Tryd.underlying22])
      rw [hB] at h1
      unfold reachBytes at h1
      simp at h1
      omega
    have hlm : len ≤ m := by rw [hmm]; split <;> omega
    have each : ∀ i, i < len → ∃ y : Int × Value × Nat × (Nat → BitVec 8), (∀ j, j < 2 → W.cell? (x.add (i * 2 + j)) = some (rdC (fun _ => y.1) (fun _ => y.2.1) j)) ∧ okI y.1 ∧ PV y.2.1 y.2.2.1 y.2.2.2 W ∧ y.2.2.1 ≤ 140737488355328 := by
      intro i hi
      obtain ⟨cs', h1, h2⟩ := hx i (by omega)
      rw [hC] at h1
      obtain ⟨_, hlen, hcell⟩ := World.cells?_some h1
      obtain ⟨k, u, rfl, hk, l', b', hp, hl'⟩ := redo_cellsW h2 (fun n hn => hall n (by rw [hdx']; simp only [DataW.weights, Tryd.underlying22, List.mem_cons, List.mem_append]; exact .inr (.inl (weightsAll_mem (List.mem_map.2 ⟨i, by simpa using hi, rfl⟩) n hn))))
      refine ⟨(k, u, l', b'), fun j hj => ?_, hk, hp, by unfold reachBytes at hl'; show l' ≤ _; omega⟩
      have e := hcell j (by omega)
      rw [add_add] at e
      rw [e]
      rcases (by omega : j = 0 ∨ j = 1) with rfl | rfl <;> rfl
    obtain ⟨y, hy⟩ := Go.Deep.choose_lt each
    refine ⟨len, fun i => (y i).1, fun i => (y i).2.1, fun i => (y i).2.2.1, fun i => (y i).2.2.2, ⟨.inr ⟨x, cap, rfl, hl, fun j hj => ?_⟩, fun i hi => (hy i hi).2.2⟩, fun i hi => (hy i hi).2.1, hnn⟩
    have e := (hy (j / 2) (by omega)).1 (j % 2) (Nat.mod_lt _ (by decide))
    rw [show j / 2 * 2 + j % 2 = j by omega] at e
    rw [e]
    unfold rdC
    rw [show j % 2 % 2 = j % 2 by omega]
def OArg (v : Value) (W : World) : Prop := (v = .slice none 0 0) ∨ ∃ (a : Addr) (n cap : Nat) (kd : Nat → Int) (rv : Nat → Value), v = .slice (some a) n cap ∧ n ≤ cap ∧ n ≤ 4398046511104 ∧ ∀ i, i < n → (W.cell? (a.add (i * 5)) = some (.int .i64 (kd i)) ∧ W.cell? (a.add (i * 5 + 1)) = some (rv i)) ∧ RArg (rv i) W
set_option maxRecDepth 100000 in
theorem op_cellsW {H : Type} {enc : TypeId × Value → H} {W : World} {base : Nat} {spare : Nat → Bool} {held : Bool} {n : Nat} {cs : List Value} {x : DataW H × List MemPlace} (h : DataW.trod enc Tryd.prog W base spare held n 42 cs = some x) (hw : ∀ m ∈ x.1.weights Tryd.prog 42, m ≤ reachBytes) :
    ∃ (k : Int) (u v2 v3 v4 : Value), cs = [.int .i64 k, u, v2, v3, v4] ∧ RArg u W := by
  have c3 : Tryd.prog.cellsOf 3 = 1 := by kernel_rfl
  have c22 : Tryd.prog.cellsOf 22 = 1 := by kernel_rfl
  have c42 : Tryd.prog.cellsOf 42 = 5 := by kernel_rfl
  obtain ⟨mm, hl, hf⟩ := trod_stW (fs := [_, _, _, _, _]) Tryd.underlying42 h
  obtain ⟨y0, h0, _⟩ := hf 0 _ rfl
  obtain ⟨y1, h1, w1⟩ := hf 1 _ rfl
  rw [c42] at hl
  match cs, hl with
  | [v0, v1, v2, v3, v4], _ =>
    simp only [c3, c22, List.drop_succ_cons, List.drop_zero, List.take_succ_cons, List.take_zero] at h0 h1
    obtain ⟨k, e0, _, w0⟩ := DataW.trod_int Tryd.underlying3 h0
    obtain ⟨u, e1, hp⟩ := rargW h1 fun n hn => hw n (w1 n hn)
    simp only [List.cons.injEq, and_true] at e0 e1
    subst e0 e1
    exact ⟨k, _, _, _, _, rfl, hp⟩
set_option maxRecDepth 100000 in
theorem oarg {H : Type} {enc : TypeId × Value → H} {W : World} {r : Reach} {b0 base : Nat} {spare : Nat → Bool} {held : Bool} {v : Value} {d : DataW H} {p : List MemPlace} {ts : List TypeId} {ds : List (DataW H)}
    (hv : Value.okWide Tryd.prog W r b0 32 v) (h : DataW.Trod enc Tryd.prog W base spare held 32 v d p) (hsz : (DataW.weightsEach Tryd.prog ts ds).all (· ≤ reachBytes) = true) (jj : Nat) (ht : ts[jj]? = some 32) (hd : ds[jj]? = some d) : OArg v W := by
  obtain ⟨a, len, cap, rfl⟩ := okWide_slice Tryd.underlying32 hv
  obtain ⟨fuel, hf⟩ := h
  have hC : Tryd.prog.cellsOf 42 = 5 := by kernel_rfl
  have hB : Tryd.prog.bytesOf 42 = 88 := by kernel_rfl
  rcases Go.Deep.open_slice Tryd.underlying32 hf with ⟨hcs, _⟩ | ⟨x, l, c, m, n, D, Pl, hcs, _, hl, hm, hmm, hdx, hx⟩
  · simp [Value.cells] at hcs
    obtain ⟨rfl, rfl, rfl⟩ := hcs
    exact .inl rfl
  · simp [Value.cells] at hcs
    obtain ⟨rfl, rfl, rfl⟩ := hcs
    have hdx' : d = .slice ((List.range len).map D) ((List.range (m - len)).map fun j => D (len + j)) := congrArg Prod.fst hdx
    have hall : ∀ n ∈ d.weights Tryd.prog 32, n ≤ reachBytes := fun n hn => by
      have := List.all_eq_true.1 hsz _ (DataW.weights_mem_each ht hd n hn)
      simpa using this
    have hnn : len ≤ 4398046511104 := by
      rw [hdx'] at hd
      have h1 := sized_slice hsz ht hd Tryd.underlying32
      rw [hB] at h1
      unfold reachBytes at h1
      simp at h1
      omega
    have hlm : len ≤ m := by rw [hmm]; split <;> omega
    have each : ∀ i, i < len → ∃ y : Int × Value, (W.cell? (x.add (i * 5)) = some (.int .i64 y.1) ∧ W.cell? (x.add (i * 5 + 1)) = some y.2) ∧ RArg y.2 W := by
      intro i hi
      obtain ⟨cs', h1, h2⟩ := hx i (by omega)
      rw [hC] at h1
      obtain ⟨_, hlen, hcell⟩ := World.cells?_some h1
      obtain ⟨k, u, v2, v3, v4, rfl, hp⟩ := op_cellsW h2 (fun n hn => hall n (by rw [hdx']; simp only [DataW.weights, Tryd.underlying32, List.mem_cons, List.mem_append]; exact .inr (.inl (weightsAll_mem (List.mem_map.2 ⟨i, by simpa using hi, rfl⟩) n hn))))
      refine ⟨(k, u), ⟨?_, ?_⟩, hp⟩
      · have e := hcell 0 (by decide)
        rw [add_add] at e
        exact e
      · have e := hcell 1 (by decide)
        rw [add_add] at e
        exact e
    obtain ⟨y, hy⟩ := Go.Deep.choose_lt each
    exact .inr ⟨x, len, cap, fun i => (y i).1, fun i => (y i).2, rfl, hl, hnn, hy⟩
end Go.Proofs.YtiakkclabgelfaaDoor
