/-
  How redos and blocks that came in read. The walk of RecordBlocks.
-/
import Derived.Test.YtedgopionpdfeaaDoorQ37
import Derived.Test.YtedgopionpdfeaaDoorQ11
import Derived.Deep.Slices
import Derived.Test.YtedgopionpdfeaaDoorQ43
namespace Go.Proofs.YtedgopionpdfeaaDoor
open Go.ChangeShapes Go.WideShapes Go.ChangeAt Go.RowKit
theorem weightsAll_mem {H : Type} {P : Program} {e : TypeId} : ∀ {l : List (DataW H)} {d : DataW H}, d ∈ l → ∀ n ∈ d.weights P e, n ∈ DataW.weightsAll P e l
  | d0 :: r, d, h, n, hn => by
    simp only [DataW.weightsAll, List.mem_append]
    rcases List.mem_cons.1 h with rfl | h
    · exact .inl hn
    · exact .inr (weightsAll_mem h n hn)
theorem trod_stW {H : Type} {enc : TypeId × Value → H} {P : Program} {w : World} {base : Nat} {spare : Nat → Bool} {held : Bool} {t : TypeId} {fs : List Field} {fuel : Nat} {cs : List Value} {x : DataW H × List MemPlace} (ht : P.underlying t = some (.struct fs.toArray)) (h : DataW.trod enc P w base spare held fuel t cs = some x) :
    ∃ n, cs.length = P.cellsOf t ∧ ∀ (i : Nat) (f : Field), fs[i]? = some f → ∃ y, DataW.trod enc P w base spare held n f.type ((cs.drop f.offset).take (P.cellsOf f.type)) = some y ∧ ∀ m ∈ y.1.weights P f.type, m ∈ x.1.weights P t := by
  obtain ⟨xs, n, _, hx, hl, hlen, hf⟩ := DataW.trod_struct ht h
  refine ⟨n, hl, fun i f hi => ?_⟩
  have hi2 : fs.toArray[i]? = some f := by simpa using hi
  have hlt : i < xs.length := by
    have := (List.getElem?_eq_some_iff.1 hi).1
    simp at hlen
    omega
  refine ⟨xs[i], by rw [hf i f hi2, List.getElem?_eq_getElem hlt], fun m hm => ?_⟩
  rw [hx]
  simp only [DataW.weights, ht]
  exact DataW.weights_mem_each (j := i) (by simp [hi]) (by simp [hlt]) m hm
set_option maxRecDepth 100000 in
theorem open_pieceW {H : Type} {enc : TypeId × Value → H} {W : World} {base : Nat} {spare : Nat → Bool} {held : Bool} {n : Nat} {cs : List Value} {x : DataW H × List MemPlace} (h : DataW.trod enc Tryd.prog W base spare held n 34 cs = some x) (hw : ∀ m ∈ x.1.weights Tryd.prog 34, m ≤ reachBytes) :
    ∃ u l b, cs = [u] ∧ PV u l b W ∧ l ≤ reachBytes := by
  rcases open_ints Tryd.underlying34 Tryd.underlying5 (by kernel_rfl) h with ⟨hcs, hx⟩ | ⟨a, len, cap, zs, hcs, _, hl, hm, hz, hd, hcell, hwz⟩
  · exact ⟨.slice none 0 0, 0, fun _ => 0#8, hcs, .inl ⟨rfl, rfl⟩, Nat.zero_le _⟩
  · have hlen : len ≤ zs.length := by rw [hz]; split <;> omega
    have hall : ∀ i, i < len → ∃ c : BitVec 8, zs.getD i 0 = (c.toNat : Int) := fun i hi => by
      refine of_wf8 (hwz _ ?_)
      rw [List.getD_eq_getElem?_getD, List.getElem?_eq_getElem (by omega), Option.getD_some]
      exact List.getElem_mem _
    refine ⟨.slice (some a) len cap, len, fun i => if h : i < len then (hall i h).choose else 0#8, hcs, .inr ⟨a, cap, rfl, hl, fun j hj => ?_⟩, ?_⟩
    · rw [hcell j (by omega)]
      simp only [yv, dif_pos hj]
      rw [← (hall j hj).choose_spec]
    · have b5 : Tryd.prog.bytesOf 5 = 1 := by kernel_rfl
      have h1 := hw (((lits .u8 (zs.take len)).length (α := DataW H) + (lits .u8 (zs.drop len)).length (α := DataW H)) * Tryd.prog.bytesOf 5) (by rw [hd]; simp [DataW.weights, Tryd.underlying34])
      rw [b5] at h1
      simp [lits] at h1
      omega
set_option maxRecDepth 100000 in
theorem redo_cellsW {H : Type} {enc : TypeId × Value → H} {W : World} {base : Nat} {spare : Nat → Bool} {held : Bool} {n : Nat} {cs : List Value} {x : DataW H × List MemPlace} (h : DataW.trod enc Tryd.prog W base spare held n 51 cs = some x) (hw : ∀ m ∈ x.1.weights Tryd.prog 51, m ≤ reachBytes) :
    ∃ (k : Int) (u : Value), cs = [.int .i64 k, u] ∧ okI k ∧ (∃ l b, PV u l b W ∧ l ≤ reachBytes) := by
  have c3 : Tryd.prog.cellsOf 3 = 1 := by kernel_rfl
  have c34 : Tryd.prog.cellsOf 34 = 1 := by kernel_rfl
  have c51 : Tryd.prog.cellsOf 51 = 2 := by kernel_rfl
  obtain ⟨mm, hl, hf⟩ := trod_stW (fs := [_, _]) Tryd.underlying51 h
  obtain ⟨y0, h0, _⟩ := hf 0 _ rfl
  obtain ⟨y1, h1, w1⟩ := hf 1 _ rfl
  rw [c51] at hl
  match cs, hl with
  | [v0, v1], _ =>
    simp only [c3, c34, List.drop_succ_cons, List.drop_zero, List.take_succ_cons, List.take_zero] at h0 h1
    obtain ⟨k, e0, _, w0⟩ := DataW.trod_int Tryd.underlying3 h0
    obtain ⟨u, l, b, e1, hp, hl⟩ := open_pieceW h1 fun n hn => hw n (w1 n hn)
    simp only [List.cons.injEq, and_true] at e0 e1
    subst e0 e1
    exact ⟨k, _, rfl, w0, l, b, hp, hl⟩
/-- redos that came in -/
def RArg (v : Value) (W : World) : Prop := ∃ n bs us ls fs, RLs v n bs us ls fs W ∧ (∀ i, i < n → okI (bs i)) ∧ n ≤ 4398046511104
set_option maxRecDepth 100000 in
theorem rarg {H : Type} {enc : TypeId × Value → H} {W : World} {r : Reach} {b0 base : Nat} {spare : Nat → Bool} {held : Bool} {v : Value} {d : DataW H} {p : List MemPlace} {ts : List TypeId} {ds : List (DataW H)}
    (hv : Value.okWide Tryd.prog W r b0 23 v) (h : DataW.Trod enc Tryd.prog W base spare held 23 v d p) (hsz : (DataW.weightsEach Tryd.prog ts ds).all (· ≤ reachBytes) = true) (jj : Nat) (ht : ts[jj]? = some 23) (hd : ds[jj]? = some d) : RArg v W := by
  obtain ⟨a, len, cap, rfl⟩ := okWide_slice Tryd.underlying23 hv
  obtain ⟨fuel, hf⟩ := h
  have hC : Tryd.prog.cellsOf 51 = 2 := by kernel_rfl
  have hB : Tryd.prog.bytesOf 51 = 32 := by kernel_rfl
  rcases Go.Deep.open_slice Tryd.underlying23 hf with ⟨hcs, _⟩ | ⟨x, l, c, m, n, D, Pl, hcs, _, hl, hm, hmm, hdx, hx⟩
  · simp [Value.cells] at hcs
    obtain ⟨rfl, rfl, rfl⟩ := hcs
    exact ⟨0, fun _ => 0, fun _ => undef, fun _ => 0, fun _ _ => 0#8, ⟨.inl ⟨rfl, rfl⟩, fun i hi => by omega⟩, fun i hi => by omega, by decide⟩
  · simp [Value.cells] at hcs
    obtain ⟨rfl, rfl, rfl⟩ := hcs
    have hdx' : d = .slice ((List.range len).map D) ((List.range (m - len)).map fun j => D (len + j)) := congrArg Prod.fst hdx
    have hall : ∀ n ∈ d.weights Tryd.prog 23, n ≤ reachBytes := fun n hn => by
      have := List.all_eq_true.1 hsz _ (DataW.weights_mem_each ht hd n hn)
      simpa using this
    have hnn : len ≤ 4398046511104 := by
      rw [hdx'] at hd
      have h1 := sized_slice hsz ht hd Tryd.underlying23
      rw [hB] at h1
      unfold reachBytes at h1
      simp at h1
      omega
    have hlm : len ≤ m := by rw [hmm]; split <;> omega
    have each : ∀ i, i < len → ∃ y : Int × Value × Nat × (Nat → BitVec 8), (∀ j, j < 2 → W.cell? (x.add (i * 2 + j)) = some (rdC (fun _ => y.1) (fun _ => y.2.1) j)) ∧ okI y.1 ∧ PV y.2.1 y.2.2.1 y.2.2.2 W ∧ y.2.2.1 ≤ 140737488355328 := by
      intro i hi
      obtain ⟨cs', h1, h2⟩ := hx i (by omega)
      rw [hC] at h1
      obtain ⟨_, hlen, hcell⟩ := World.cells?_some h1
      obtain ⟨k, u, rfl, hk, l', b', hp, hl'⟩ := redo_cellsW h2 (fun n hn => hall n (by rw [hdx']; simp only [DataW.weights, Tryd.underlying23, List.mem_cons, List.mem_append]; exact .inr (.inl (weightsAll_mem (List.mem_map.2 ⟨i, by simpa using hi, rfl⟩) n hn))))
      refine ⟨(k, u, l', b'), fun j hj => ?_, hk, hp, by unfold reachBytes at hl'; show l' ≤ _; omega⟩
      have e := hcell j (by omega)
      rw [add_add] at e
      rw [e]
      rcases (by omega : j = 0 ∨ j = 1) with rfl | rfl <;> rfl
    obtain ⟨y, hy⟩ := Go.Deep.choose_lt each
    refine ⟨len, fun i => (y i).1, fun i => (y i).2.1, fun i => (y i).2.2.1, fun i => (y i).2.2.2, ⟨.inr ⟨x, cap, rfl, hl, fun j hj => ?_⟩, fun i hi => (hy i hi).2.2⟩, fun i hi => (hy i hi).2.1, hnn⟩
    have e := (hy (j / 2) (by omega)).1 (j % 2) (Nat.mod_lt _ (by decide))
    rw [show j / 2 * 2 + j % 2 = j by omega] at e
    rw [e]
    unfold rdC
    rw [show j % 2 % 2 = j % 2 by omega]
/-- blocks that came in -/
def PArg2 (v : Value) (W : World) : Prop := ∃ n us ls fs, PL v n us ls fs W ∧ (∀ i, i < n → ls i ≤ 140737488351232) ∧ n ≤ 5864062014634
set_option maxRecDepth 100000 in
theorem blarg {H : Type} {enc : TypeId × Value → H} {W : World} {r : Reach} {b0 base : Nat} {spare : Nat → Bool} {held : Bool} {v : Value} {d : DataW H} {p : List MemPlace} {ts : List TypeId} {ds : List (DataW H)}
    (hv : Value.okWide Tryd.prog W r b0 24 v) (h : DataW.Trod enc Tryd.prog W base spare held 24 v d p) (hsz : (DataW.weightsEach Tryd.prog ts ds).all (· ≤ reachBytes) = true) (jj : Nat) (ht : ts[jj]? = some 24) (hd : ds[jj]? = some d) : PArg2 v W := by
  obtain ⟨a, len, cap, rfl⟩ := okWide_slice Tryd.underlying24 hv
  obtain ⟨fuel, hf⟩ := h
  have hC : Tryd.prog.cellsOf 34 = 1 := by kernel_rfl
  have hB : Tryd.prog.bytesOf 34 = 24 := by kernel_rfl
  rcases Go.Deep.open_slice Tryd.underlying24 hf with ⟨hcs, _⟩ | ⟨x, l, c, m, n, D, Pl, hcs, _, hl, hm, hmm, hdx, hx⟩
  · simp [Value.cells] at hcs
    obtain ⟨rfl, rfl, rfl⟩ := hcs
    exact ⟨0, fun _ => undef, fun _ => 0, fun _ _ => 0#8, ⟨.inl ⟨rfl, rfl⟩, fun i hi => by omega⟩, fun i hi => by omega, by decide⟩
  · simp [Value.cells] at hcs
    obtain ⟨rfl, rfl, rfl⟩ := hcs
    have hdx' : d = .slice ((List.range len).map D) ((List.range (m - len)).map fun j => D (len + j)) := congrArg Prod.fst hdx
    have hall : ∀ n ∈ d.weights Tryd.prog 24, n ≤ reachBytes := fun n hn => by
      have := List.all_eq_true.1 hsz _ (DataW.weights_mem_each ht hd n hn)
      simpa using this
    have hnn : len ≤ 5864062014634 := by
      rw [hdx'] at hd
      have h1 := sized_slice hsz ht hd Tryd.underlying24
      rw [hB] at h1
      unfold reachBytes at h1
      simp at h1
      omega
    have hlm : len ≤ m := by rw [hmm]; split <;> omega
    have each : ∀ i, i < len → ∃ y : Value × Nat × (Nat → BitVec 8), W.cell? (x.add i) = some y.1 ∧ PV y.1 y.2.1 y.2.2 W ∧ y.2.1 ≤ 140737488351232 := by
      intro i hi
      obtain ⟨cs', h1, h2⟩ := hx i (by omega)
      rw [hC] at h1
      obtain ⟨_, hlen, hcell⟩ := World.cells?_some h1
      obtain ⟨u, l', b', rfl, hp, hl'⟩ := open_pieceW h2 (fun n hn => hall n (by rw [hdx']; simp only [DataW.weights, Tryd.underlying24, List.mem_cons, List.mem_append]; exact .inr (.inl (weightsAll_mem (List.mem_map.2 ⟨i, by simpa using hi, rfl⟩) n hn))))
      refine ⟨(u, l', b'), ?_, hp, by unfold reachBytes at hl'; show l' ≤ _; omega⟩
      have e := hcell 0 (by omega)
      rw [add_add, Nat.mul_one, Nat.add_zero] at e
      rw [e]
      rfl
    obtain ⟨y, hy⟩ := Go.Deep.choose_lt each
    exact ⟨len, fun i => (y i).1, fun i => (y i).2.1, fun i => (y i).2.2, ⟨.inr ⟨x, cap, rfl, hl, fun j hj => (hy j hj).1⟩, fun i hi => (hy i hi).2.1⟩, fun i hi => (hy i hi).2.2, hnn⟩
end Go.Proofs.YtedgopionpdfeaaDoor
namespace Go.Proofs.YtedgopionpdfeaaDoor
open Go.RowKit Go.BigFrame
set_option linter.unusedVariables false
/-- a list of slices of one's own grows by such a list -/
theorem wpList_ql {ops : Array Oper} {rest : List Oper} {o : Oper} {a : Act} {Q : Exit → Act → World → Prop} {w0 X : World} {v : Value} {n : Nat} {us : Nat → Value} (hgd : o.guard = none) (s x : Operand)
    (ho : o.op = .call { callee := .builtin .append, args := #[s, x], argTypes := #[24, 24] }) (hs : a.eval s = v) (hO : OwnB w0.heap.size 34 v n us X) (hE : Ext w0 X) (xv : Value) (m : Nat) (us2 : Nat → Value) (ls2 : Nat → Nat) (fs2 : Nat → Nat → BitVec 8) (hx : a.eval x = xv) (hP : PL xv m us2 ls2 fs2 X) (hn : (n + m) * 24 ≤ 140737488355328)
    (h : ∀ v' X', OwnB w0.heap.size 34 v' (n + m) (cut2 n us us2) X' → Ext w0 X' → wpList Tryd.prog ops Q rest (a.put o.dst v') X') : wpList Tryd.prog ops Q (o :: rest) a X := by
  obtain ⟨i, z, e1, e2, e3, e4, e5⟩ := elem24.info
  rcases hP.1 with ⟨rfl, rfl⟩ | ⟨ad, cap, rfl, hc, hcell⟩
  · exact wpList_growE_none elem24 hgd s x ho hs hO hx (h v X (hO.congr fun j hj => by unfold cut2; rw [if_pos hj]) hE)
  · refine wpList_append_own_at X hgd s x 24 ho w0.heap.size 34 i z 1 24 elem24.slice e1 e2 e3 e4 e5 (by decide) v n (row n us) hs hO ad m cap (row m us2) hx (by rw [row_length]; omega) (fun j u hj => ?_) (fun u hu => ?_) (by unfold maxLen; omega) hn (Below.size hE) fun v' Y h2 h3 _ _ => h v' Y ?_ (Below.trans hE (below_grown (Below.size hE) h3 fun k hk => (hO.lt k hk).1))
    · obtain ⟨hj', rfl⟩ := row_some hj
      exact hcell j hj'
    · obtain ⟨j, hj, rfl⟩ := List.mem_map.1 hu
      obtain ⟨oa, cp, q⟩ := (hP.2 j (by simpa using hj)).form
      rw [q]
      rfl
    · unfold OwnB
      rw [← row_append n m us us2 _ (fun j hj => by unfold cut2; rw [if_pos hj]) (fun j hj => by unfold cut2; rw [if_neg (by omega), Nat.add_sub_cancel_left])]
      exact h2
theorem pl_join {w0 X : World} {v v1 v2 : Value} {n m : Nat} {us us2 : Nat → Value} {ls ls2 : Nat → Nat} {fs fs2 : Nat → Nat → BitVec 8} (hO : OwnB w0.heap.size 34 v (n + m) (cut2 n us us2) X) (hE : Ext w0 X) (h1 : PL v1 n us ls fs w0) (h2 : PL v2 m us2 ls2 fs2 w0) (hn : 0 < n) : PL v (n + m) (cut2 n us us2) (cut2 n ls ls2) (cut2 n fs fs2) X := by
  obtain ⟨g, cap, e, _, hc, _, hR⟩ := hO.lies (by omega)
  refine ⟨.inr ⟨_, _, e, hc, fun j hj => by rw [add0]; exact hR.1 j hj⟩, fun i hi => ?_⟩
  unfold cut2
  by_cases c : i < n
  · rw [if_pos c, if_pos c, if_pos c]
    exact (h1.2 i c).ext hE
  · rw [if_neg c, if_neg c, if_neg c]
    exact (h2.2 (i - n) (by omega)).ext hE
theorem RLs.congr3 {v : Value} {n : Nat} {bs bs' : Nat → Int} {us : Nat → Value} {ls ls' : Nat → Nat} {fs fs' : Nat → Nat → BitVec 8} {w : World} (h : RLs v n bs us ls fs w) (e : ∀ i, i < n → bs i = bs' i ∧ ls i = ls' i ∧ fs i = fs' i) : RLs v n bs' us ls' fs' w := by
  refine ⟨?_, fun i hi => ?_⟩
  · rcases h.1 with q | ⟨a, cap, q1, q2, q3⟩
    · exact .inl q
    · refine .inr ⟨a, cap, q1, q2, fun j hj => ?_⟩
      rw [q3 j hj]
      unfold rdC
      rw [(e (j / 2) (by omega)).1]
  · obtain ⟨e1, e2, e3⟩ := e i hi
    rw [← e2, ← e3]
    exact h.2 i hi
set_option maxRecDepth 20000 in
set_option maxHeartbeats 4000000 in
theorem bl_no (x : BitVec 64) (v0 : Value) (n : Nat) (bs : Nat → Int) (us0 : Nat → Value) (ls : Nat → Nat) (fs : Nat → Nat → BitVec 8) (vb : Value) (m : Nat) (ub : Nat → Value) (lb : Nat → Nat) (fb : Nat → Nat → BitVec 8) (p : Int) (w : World) (hL : RLs v0 n bs us0 ls fs w) (hbi : ∀ i, i < n → okI (bs i)) (hn : n ≤ 4398046511104) (hP : PL vb m ub lb fb w) (hlb : ∀ i, i < m → lb i ≤ 140737488351232) (hm : m ≤ 5864062014634) (hT : TabC w) (hok : ¬ okT x n bs ls fs) : Calls Tryd.prog 3 #[.int .u64 (x.toNat : Int), v0, vb, .int .i64 p] w fun e w' => e = .returned (.bool true) ∧ Ext w w' := by
  obtain ⟨so, sc, rfl⟩ := hL.form
  obtain ⟨qo, qc, rfl⟩ := hP.form
  replace hL := hideit hL
  replace hbi := hideit hbi
  replace hn := hideit hn
  replace hP := hideit hP
  replace hlb := hideit hlb
  replace hm := hideit hm
  replace hT := hideit hT
  replace hok := hideit hok
  have hE := hideit (Ext.refl w)
  go_enter Tryd.func3, Tryd.ntmps3
  go_upto_region 1 with (fail)
  refine wp_region_lit ?_
  refine xm [some (.int .u64 (x.toNat : Int)), some (.slice so n sc)] (by kernel_rfl) (by simp [xr, go_sem]) ?_
  simp only [xw, p0, p1, p2, p3]
  refine wpList_call rfl (by simp [go_sem]) ((blocks_no x (.slice so n sc) n bs us0 ls fs w hL.out hbi.out hn.out hok.out).mono ?_)
  rintro e y1 ⟨rfl, hX2⟩
  refine ⟨_, rfl, ?_⟩
  simp only [Act.put, List.setIfInBounds_toArray, List.set_cons_zero, List.set_cons_succ]
  replace hL := hideit (hL.out.ext hX2)
  replace hP := hideit (hP.out.ext hX2)
  replace hT := hideit (hT.out.ext hX2)
  replace hE := hideit (Ext.trans hE.out hX2)

  clear hX2
  refine xm [some (.tuple #[.slice none 0 0, .int .i64 1]), some (.slice none 0 0), some (.int .i64 1), some (.slice none 0 0), some (.int .i64 1)] (by kernel_rfl) (by simp [xr, go_sem]) ?_
  simp only [xw, p0, p1, p2, p3]
  go_upto_region 2 with (fail)
  refine wp_region_lit ?_
  refine xm [some (.int .u64 (x.toNat : Int)), some (.slice so n sc)] (by kernel_rfl) (by simp [xr, go_sem]) ?_
  simp only [xw, p0, p1, p2, p3]
  refine wpList_call rfl (by simp [go_sem]) ((rb_no x (.slice so n sc) n bs us0 ls fs y1 hL.out hbi.out hn.out hok.out).mono ?_)
  rintro e y3 ⟨rfl, hX4⟩
  refine ⟨_, rfl, ?_⟩
  simp only [Act.put, List.setIfInBounds_toArray, List.set_cons_zero, List.set_cons_succ]
  replace hL := hideit (hL.out.ext hX4)
  replace hP := hideit (hP.out.ext hX4)
  replace hT := hideit (hT.out.ext hX4)
  replace hE := hideit (Ext.trans hE.out hX4)

  clear hX4
  refine xm [some (.tuple #[.slice none 0 0, .int .i64 1]), some (.slice none 0 0), some (.int .i64 1), some (.slice none 0 0), some (.int .i64 1)] (by kernel_rfl) (by simp [xr, go_sem]) ?_
  simp only [xw, p0, p1, p2, p3]
  go_upto_region 3 with (fail)
  refine wp_region_lit ?_
  refine wpList_call rfl (by simp [go_sem]) ((lives_any y3 hT.out).mono ?_)
  rintro e y5 ⟨rfl, hX6⟩
  refine ⟨_, rfl, ?_⟩
  simp only [Act.put, List.setIfInBounds_toArray, List.set_cons_zero, List.set_cons_succ]
  replace hL := hideit (hL.out.ext hX6)
  replace hP := hideit (hP.out.ext hX6)
  replace hT := hideit (hT.out.ext hX6)
  replace hE := hideit (Ext.trans hE.out hX6)

  clear hX6
  refine xm [some (.bool false), some (.bool false), some (.slice none 0 0), some (.slice none 0 0)] (by kernel_rfl) (by simp [xr, go_sem]) ?_
  simp only [xw, p0, p1, p2, p3]
  refine wpList_callW rfl (by simp [go_sem]) ((sameb_any (.slice none 0 0) (.slice none 0 0) 0 (fun _ => undef) (fun _ => undef) (fun _ => 0) (fun _ _ => 0#8) y5 ⟨.inl ⟨rfl, rfl⟩, fun i hi => absurd hi (Nat.not_lt_zero _)⟩ ⟨.inl ⟨rfl, rfl⟩, fun i hi => absurd hi (Nat.not_lt_zero _)⟩ (by decide)).mono ?_)
  rintro e y7 ⟨rfl, hX8⟩
  refine ⟨_, rfl, ?_⟩
  simp only [Act.put, List.setIfInBounds_toArray, List.set_cons_zero, List.set_cons_succ]
  replace hL := hideit (hL.out.ext hX8)
  replace hP := hideit (hP.out.ext hX8)
  replace hT := hideit (hT.out.ext hX8)
  replace hE := hideit (Ext.trans hE.out hX8)

  clear hX8
  refine xm [some (.bool false), some (.bool false), some (.bool false), some (.int .i64 1), some (.int .i64 1), some (.bool false), some (.bool false)] (by kernel_rfl) (by simp [xr, go_sem]) ?_
  simp only [xw, p0, p1, p2, p3]
  go_upto_region 5 with (fail)
  refine wp_region_lit ?_
  refine xm [some (.int .i64 1), some (.bool true)] (by kernel_rfl) (by simp [xr, go_sem]) ?_
  simp only [xw, p0, p1, p2, p3]
  go_wp2
  go_ret
  exact ⟨rfl, hE.out⟩
theorem BLs.bv0 {B : Nat} {v : Value} {n : Nat} {us us2 : Nat → Value} {fs fs2 : Nat → Nat → BitVec 8} {ls2 : Nat → Nat} {X Y : World} (h : BLs B v (n + 2) us fs X) (k : Ext X Y) : BV (cut2 (n + 2) us us2 0) (cut2 (n + 2) (fun _ => 512) ls2 0) (cut2 (n + 2) fs fs2 0) Y := by
  unfold cut2
  rw [if_pos (by omega), if_pos (by omega), if_pos (by omega)]
  obtain ⟨z, cp, q1, q2, q3, _⟩ := h.byt 0 (by omega)
  exact .inr ⟨_, cp, q1, q2, q3.carry k⟩
set_option maxRecDepth 20000 in
set_option maxHeartbeats 4000000 in
theorem bl_ok (x : BitVec 64) (v0 : Value) (n : Nat) (bs : Nat → Int) (us0 : Nat → Value) (ls : Nat → Nat) (fs : Nat → Nat → BitVec 8) (vb : Value) (m : Nat) (ub : Nat → Value) (lb : Nat → Nat) (fb : Nat → Nat → BitVec 8) (p : Int) (w : World) (hL : RLs v0 n bs us0 ls fs w) (hbi : ∀ i, i < n → okI (bs i)) (hn : n ≤ 4398046511104) (hP : PL vb m ub lb fb w) (hlb : ∀ i, i < m → lb i ≤ 140737488351232) (hm : m ≤ 5864062014634) (hT : TabC w) (hok : okT x n bs ls fs) : Calls Tryd.prog 3 #[.int .u64 (x.toNat : Int), v0, vb, .int .i64 p] w fun e w' => e = .returned (.bool true) ∧ Ext w w' := by
  obtain ⟨so, sc, rfl⟩ := hL.form
  obtain ⟨qo, qc, rfl⟩ := hP.form
  replace hL := hideit hL
  replace hbi := hideit hbi
  replace hn := hideit hn
  replace hP := hideit hP
  replace hlb := hideit hlb
  replace hm := hideit hm
  replace hT := hideit hT
  have hn1 : Hid (1 ≤ n) := hok.1.2.1
  have hn64 : Hid (n ≤ 64) := hok.1.2.2.1
  have hls : Hid (∀ i, i < n → ls i = 512) := fun i hi => Classical.byContradiction fun h => hok.2 ⟨i, hi, h⟩
  obtain ⟨F, hF⟩ : ∃ F, F = trF x (tmK ls fs n) n bs fs := ⟨_, rfl⟩
  replace hF := hideit hF
  replace hok := hideit hok
  have hE := hideit (Ext.refl w)
  go_enter Tryd.func3, Tryd.ntmps3
  go_upto_region 1 with (fail)
  refine wp_region_lit ?_
  refine xm [some (.int .u64 (x.toNat : Int)), some (.slice so n sc)] (by kernel_rfl) (by simp [xr, go_sem]) ?_
  simp only [xw, p0, p1, p2, p3]
  refine wpList_call rfl (by simp [go_sem]) ((blocks_ok x (.slice so n sc) n bs us0 ls fs w hL.out hbi.out hn.out hT.out hok.out).mono ?_)
  rintro e y1 ⟨va, ua, rfl, hA, hX1⟩
  refine ⟨_, rfl, ?_⟩
  simp only [Act.put, List.setIfInBounds_toArray, List.set_cons_zero, List.set_cons_succ]
  replace hL := hideit (hL.out.ext hX1)
  replace hP := hideit (hP.out.ext hX1)
  replace hT := hideit (hT.out.ext hX1)
  replace hE := hideit (Ext.trans hE.out hX1)
  rw [← hF.out] at hA
  obtain ⟨ao, ac, rfl⟩ := hA.form
  replace hA := hideit hA
  clear hX1
  refine xm [some (.tuple #[.slice ao (n + 2) ac, .int .i64 0]), some (.slice ao (n + 2) ac), some (.int .i64 0), some (.slice ao (n + 2) ac), some (.int .i64 0)] (by kernel_rfl) (by simp [xr, go_sem]) ?_
  simp only [xw, p0, p1, p2, p3]
  go_upto_region 2 with (fail)
  refine wp_region_lit ?_
  refine xm [some (.int .u64 (x.toNat : Int)), some (.slice so n sc)] (by kernel_rfl) (by simp [xr, go_sem]) ?_
  simp only [xw, p0, p1, p2, p3]
  refine wpList_call rfl (by simp [go_sem]) ((rb_ok x (.slice so n sc) n bs us0 ls fs y1 hL.out hbi.out hn.out hT.out hok.out).mono ?_)
  rintro e y2 ⟨vd, ud, rfl, hD, hX2⟩
  refine ⟨_, rfl, ?_⟩
  simp only [Act.put, List.setIfInBounds_toArray, List.set_cons_zero, List.set_cons_succ]
  replace hL := hideit (hL.out.ext hX2)
  replace hP := hideit (hP.out.ext hX2)
  replace hT := hideit (hT.out.ext hX2)
  replace hA := hideit (hA.out.ext hX2)
  replace hE := hideit (Ext.trans hE.out hX2)
  rw [← hF.out] at hD
  obtain ⟨dv, dc, rfl⟩ := hD.form
  replace hD := hideit hD
  clear hX2
  refine xm [some (.tuple #[.slice dv (n + 2) dc, .int .i64 0]), some (.slice dv (n + 2) dc), some (.int .i64 0), some (.slice dv (n + 2) dc), some (.int .i64 0)] (by kernel_rfl) (by simp [xr, go_sem]) ?_
  simp only [xw, p0, p1, p2, p3]
  go_upto_region 3 with (fail)
  refine wp_region_lit ?_
  refine wpList_call rfl (by simp [go_sem]) ((lives_any y2 hT.out).mono ?_)
  rintro e y1 ⟨rfl, hX2⟩
  refine ⟨_, rfl, ?_⟩
  simp only [Act.put, List.setIfInBounds_toArray, List.set_cons_zero, List.set_cons_succ]
  replace hL := hideit (hL.out.ext hX2)
  replace hP := hideit (hP.out.ext hX2)
  replace hT := hideit (hT.out.ext hX2)
  replace hA := hideit (hA.out.ext hX2)
  replace hD := hideit (hD.out.ext hX2)
  replace hE := hideit (Ext.trans hE.out hX2)

  clear hX2
  refine xm [some (.bool false), some (.bool false), some (.slice ao (n + 2) ac), some (.slice dv (n + 2) dc)] (by kernel_rfl) (by simp [xr, go_sem]) ?_
  simp only [xw, p0, p1, p2, p3]
  refine wpList_callW rfl (by simp [go_sem]) ((sameb_any (.slice ao (n + 2) ac) (.slice dv (n + 2) dc) (n + 2) ua ud (fun _ => 512) F y1 hA.out.pl hD.out.pl (by have := hn64.out; omega)).mono ?_)
  rintro e y3 ⟨rfl, hX4⟩
  refine ⟨_, rfl, ?_⟩
  simp only [Act.put, List.setIfInBounds_toArray, List.set_cons_zero, List.set_cons_succ]
  replace hL := hideit (hL.out.ext hX4)
  replace hP := hideit (hP.out.ext hX4)
  replace hT := hideit (hT.out.ext hX4)
  replace hA := hideit (hA.out.ext hX4)
  replace hD := hideit (hD.out.ext hX4)
  replace hE := hideit (Ext.trans hE.out hX4)

  clear hX4
  refine xm [some (.bool false), some (.bool false), some (.bool false), some (.int .i64 0), some (.int .i64 0), some (.bool false), some (.bool false)] (by kernel_rfl) (by simp [xr, go_sem]) ?_
  simp only [xw, p0, p1, p2, p3]
  go_upto_region 5 with (fail)
  refine wp_region_lit ?_
  refine xm [some (.int .i64 0), some (.bool false)] (by kernel_rfl) (by simp [xr, go_sem]) ?_
  simp only [xw, p0, p1, p2, p3]
  go_upto_region 7 with (fail)
  refine wp_region_lit ?_
  refine xm [some (.int .u64 (x.toNat : Int))] (by kernel_rfl) (by simp [xr, go_sem]) ?_
  simp only [xw, p0, p1, p2, p3]
  have hO1 := own_empty y3 y3.heap.size 34 ua (Nat.le_refl _)
  have XN : Ext y3 (y3.alloc (.cells #[] 34)) := (Below.refl _ _).alloc (Nat.le_refl _) _
  refine wpList_to rfl (.slice (some ⟨y3.heap.size, 0, none⟩) 0 0) (y3.alloc (.cells #[] 34)) (by simp [go_sem]) ?_
  simp only [Act.put, List.setIfInBounds_toArray, List.set_cons_zero, List.set_cons_succ]
  obtain ⟨w4, hw4⟩ : ∃ X, X = y3.alloc (.cells #[] 34) := ⟨_, rfl⟩
  rw [← hw4] at hO1 XN ⊢
  obtain ⟨e4, he4⟩ : ∃ v : Value, v = .slice (some ⟨y3.heap.size, 0, none⟩) 0 0 := ⟨_, rfl⟩
  rw [← he4] at hO1 ⊢
  replace hO1 := hideit hO1
  replace XN := hideit XN
  clear hw4 he4
  refine xm [some (.slice ao (n + 2) ac)] (by kernel_rfl) (by simp [xr, go_sem]) ?_
  simp only [xw, p0, p1, p2, p3]
  refine wpList_ql rfl (.tmp 48) (.tmp 49) rfl rfl hO1.out XN.out _ (n + 2) ua (fun _ => 512) F rfl (hA.out.pl.ext XN.out) (by have := hn64.out; omega) ?_
  intro v5 w5 hO5 hX5
  simp only [Act.put, List.setIfInBounds_toArray, List.set_cons_zero, List.set_cons_succ]
  replace hO5 : OwnB y3.heap.size 34 v5 (n + 2) ua w5 := by
    rw [Nat.zero_add] at hO5
    exact hO5.congr fun j hj => by unfold cut2; rw [if_neg (by omega), Nat.sub_zero]
  replace hO5 := hideit hO5
  replace hX5 := hideit hX5
  clear hO1 XN
  refine xm [some (.slice qo m qc)] (by kernel_rfl) (by simp [xr, go_sem]) ?_
  simp only [xw, p0, p1, p2, p3]
  refine wpList_ql rfl (.tmp 50) (.tmp 51) rfl rfl hO5.out hX5.out _ m ub lb fb rfl (hP.out.ext hX5.out) (by have := hn64.out; have := hm.out; omega) ?_
  intro v6 w6 hO6 hX6
  simp only [Act.put, List.setIfInBounds_toArray, List.set_cons_zero, List.set_cons_succ]
  have hJ := hideit (pl_join hO6 hX6 hA.out.pl hP.out (by omega))
  have hO0 := hideit (hA.out.bv0 (us2 := ub) (fs2 := fb) (ls2 := lb) hX6)
  have hL6 : Hid (∀ i, i < n + 2 + m → cut2 (n + 2) (fun _ => 512) lb i ≤ 140737488355328) := fun i hi => by
    unfold cut2
    by_cases c : i < n + 2
    · rw [if_pos c]; show 512 ≤ _; decide
    · rw [if_neg c]; have := hlb.out (i - (n + 2)) (by omega); omega
  obtain ⟨q1, q2, q3, q4, q5⟩ := tx_back (m := n + 2 + m) (ls' := cut2 (n + 2) (fun _ => 512) lb) (fs' := cut2 (n + 2) F fb) hok.out (by omega) (fun i hi => by unfold cut2; rw [if_pos hi]) (fun i hi => by unfold cut2; rw [if_pos hi, hF.out])
  replace q1 := hideit q1
  replace q2 := hideit q2
  replace q3 := hideit q3
  replace q4 := hideit q4
  replace q5 := hideit q5
  replace hE := hideit (Ext.trans hE.out hX6)
  replace hL := hideit (hL.out.ext hX6)
  replace hT := hideit (hT.out.ext hX6)
  replace hA := hideit (hA.out.ext hX6)
  replace hD := hideit (hD.out.ext hX6)
  clear hO5 hX5 hO6 hX6 hP
  refine wpList_call rfl (by simp [go_sem]) ((parse_yesB x v6 (n + 2 + m) _ _ _ w6 hT.out hJ.out (fun _ => hO0.out) hL6.out (by have := hn64.out; have := hm.out; omega) q1.out q2.out).mono ?_)
  rintro e w7 ⟨vr, ur, rfl, hR, hX7⟩
  refine ⟨_, rfl, ?_⟩
  simp only [Act.put, List.setIfInBounds_toArray, List.set_cons_zero, List.set_cons_succ]
  replace hL := hideit (hL.out.ext hX7)
  replace hT := hideit (hT.out.ext hX7)
  replace hA := hideit (hA.out.ext hX7)
  replace hD := hideit (hD.out.ext hX7)
  replace hE := hideit (Ext.trans hE.out hX7)
  have hR' : RLs vr n bs ur ls fs w7 := by
    have h1 := hR.rls (by rw [q3.out]; exact hn1.out) (fun i hi => hL6.out (i + 1) (by rw [q3.out] at hi; omega))
    rw [q3.out] at h1
    exact h1.congr3 fun i hi => ⟨q4.out i hi, by rw [hls.out i hi]; unfold cut2; rw [if_pos (by omega)], q5.out i hi⟩
  obtain ⟨ro, rc, rfl⟩ := hR'.form
  rw [q3.out]
  replace hR' := hideit hR'
  clear hR hX7 q1 q2 q3 q4 q5 hJ hO0 hL6
  refine xm [some (.tuple #[.slice ro n rc, .int .i64 ((n + 2 : Nat) : Int), .int .i64 0]), some (.slice ro n rc), some (.int .i64 ((n + 2 : Nat) : Int)), some (.int .i64 0), some (.slice ro n rc), some (.int .i64 ((n + 2 : Nat) : Int)), some (.int .i64 0)] (by kernel_rfl) (by simp [xr, go_sem]) ?_
  simp only [xw, p0, p1, p2, p3]
  go_upto_region 8 with (fail)
  refine wp_region_lit ?_
  refine xm [some (.int .i64 0), some (.bool false), some (.bool false), some (.int .i64 ((n + 2 : Nat) : Int)), some (.slice ao (n + 2) ac), some (.int .i64 ((n + 2 : Nat) : Int)), some (.bool false), some (.bool false), some (.bool false), some (.slice ro n rc), some (.slice so n sc)] (by kernel_rfl) (by simp [xr, go_sem]) ?_
  simp only [xw, p0, p1, p2, p3]
  refine wpList_callW rfl (by simp [go_sem]) ((samer_any (.slice ro n rc) (.slice so n sc) n bs ur us0 ls fs w7 hR'.out hL.out (by have := hn64.out; omega)).mono ?_)
  rintro e y5 ⟨rfl, hX6⟩
  refine ⟨_, rfl, ?_⟩
  simp only [Act.put, List.setIfInBounds_toArray, List.set_cons_zero, List.set_cons_succ]
  replace hL := hideit (hL.out.ext hX6)
  replace hT := hideit (hT.out.ext hX6)
  replace hA := hideit (hA.out.ext hX6)
  replace hD := hideit (hD.out.ext hX6)
  replace hR' := hideit (hR'.out.ext hX6)
  replace hE := hideit (Ext.trans hE.out hX6)

  clear hX6
  refine xm [some (.bool false), some (.bool false)] (by kernel_rfl) (by simp [xr, go_sem]) ?_
  simp only [xw, p0, p1, p2, p3]
  obtain ⟨i, hi⟩ : ∃ i, i = n + 2 := ⟨_, rfl⟩
  rw [← hi] at hD ⊢
  have hi3 : Hid (3 ≤ i ∧ i ≤ 66) := by have := hn1.out; have := hn64.out; exact ⟨by omega, by omega⟩
  obtain ⟨g, gc, hg, _, hgc, hgR⟩ := hD.out.at (by omega)
  injection hg with hg1 _ hg3
  subst hg1 hg3
  replace hi := hideit hi
  have hgc := hideit hgc
  have mi : ¬ i = 0 := by have := hi3.out; omega
  have tl := Int.tmod_lt_of_pos p (b := (i : Int)) (by have := hi3.out; omega)
  have tg := Int.lt_tmod_of_pos p (b := (i : Int)) (by have := hi3.out; omega)
  obtain ⟨pz, hpz⟩ : ∃ z, z = p.tmod (i : Int) := ⟨_, rfl⟩
  rw [← hpz] at tl tg
  have hpz' := hpz.symm
  clear hpz hgR hL hR' hA
  go_upto_region 10 with (fail)
  refine wp_region_lit ?_
  refine xm [some (.int .i64 (p)), some (.slice (some ⟨g, 0, none⟩) i dc), some (.int .i64 (i : Int)), some (.int .i64 (pz)), some (.int .i64 (pz))] (by kernel_rfl) (by simp [xr, go_sem, mi, hpz']) ?_
  simp only [xw, p0, p1, p2, p3]
  clear hpz' mi
  by_cases pn : pz < 0
  · obtain ⟨k, hk⟩ : ∃ k : Nat, (k : Int) = -pz := ⟨(-pz).toNat, by omega⟩
    have hki : Hid (k < i) := hideit (by omega)
    go_upto_region 11 with (fail)
    refine wp_region_lit ?_
    refine xm [some (.int .i64 (pz)), some (.bool true)] (by kernel_rfl) (by simp [xr, go_sem, pn]) ?_
    simp only [xw, p0, p1, p2, p3]
    have e78 : IntKind.i64.wrap (-pz) = (k : Int) := by have := hi3.out; rw [IntKind.wrap_i64]; omega
    go_upto_region 12 with (fail)
    refine wp_region_lit ?_
    refine xm [some (.int .i64 (pz)), some (.int .i64 (k : Int)), some (.int .i64 (k : Int))] (by kernel_rfl) (by simp [xr, go_sem, e78]) ?_
    simp only [xw, p0, p1, p2, p3]
    clear e78
    clear hk pn tl tg
    have kc : (k : Int) ≤ (dc : Int) := by have := hki.out; have := hgc.out; omega
    have hPk := hideit (PL.pre hD.out.pl (by have := hki.out; omega : k ≤ i)).2
    have hD0 := hideit (hD.out.bv 0)
    have hD1 : Hid (¬ (hasP x k (fun _ => 512) F ∧ isTx x (fun _ => 512) F)) := fun h => by
      have h1 := (tx_back (m := n + 2) (ls' := fun _ => 512) (fs' := F) hok.out (Nat.le_refl _) (fun _ _ => rfl) (fun _ _ => by rw [hF.out])).2.2.1
      have h2 := h.1.2.2.2
      have := hki.out
      have := hi.out
      omega
    go_upto_region 13 with (fail)
    refine wp_region_lit ?_
    refine xm [some (.int .u64 (x.toNat : Int)), some (.slice (some ⟨g, 0, none⟩) i dc), some (.int .i64 (k : Int)), some (.slice (some ⟨g, 0, none⟩) k dc)] (by kernel_rfl) (by simp [xr, go_sem, kc]) ?_
    simp only [xw, p0, p1, p2, p3]
    refine wpList_call rfl (by simp [go_sem]) ((parse_notB x (.slice (some ⟨g, 0, none⟩) k dc) k ud (fun _ => 512) F y5 hT.out hPk.out (fun h => hD0.out (by have := hki.out; omega)) (fun _ _ => by decide) (by have := hki.out; have := hi3.out; omega) hD1.out).mono ?_)
    rintro e y7 ⟨rfl, hX8⟩
    refine ⟨_, rfl, ?_⟩
    simp only [Act.put, List.setIfInBounds_toArray, List.set_cons_zero, List.set_cons_succ]
    replace hT := hideit (hT.out.ext hX8)
    replace hPk := hideit (hPk.out.ext hX8)
    replace hD := hideit (hD.out.ext hX8)
    replace hE := hideit (Ext.trans hE.out hX8)

    clear hX8
    refine xm [some (.tuple #[.slice none 0 0, .int .i64 0, .int .i64 110]), some (.slice none 0 0), some (.int .i64 0), some (.int .i64 110), some (.slice none 0 0), some (.int .i64 0), some (.int .i64 110)] (by kernel_rfl) (by simp [xr, go_sem]) ?_
    simp only [xw, p0, p1, p2, p3]
    go_upto_region 14 with (fail)
    refine wp_region_lit ?_
    refine xm [some (.slice none 0 0), some (.int .i64 0), some (.bool true), some (.bool true), some (.int .i64 0), some (.bool true), some (.bool true), some (.bool true), some (.int .i64 110), some (.bool true), some (.bool true), some (.bool true)] (by kernel_rfl) (by simp [xr, go_sem]) ?_
    simp only [xw, p0, p1, p2, p3]
    go_wp2
    go_ret
    exact ⟨rfl, hE.out⟩
  · obtain ⟨k, hk⟩ : ∃ k : Nat, (k : Int) = pz := ⟨(pz).toNat, by omega⟩
    have hki : Hid (k < i) := hideit (by omega)
    go_upto_region 11 with (fail)
    refine wp_region_lit ?_
    refine xm [some (.int .i64 (pz)), some (.bool false)] (by kernel_rfl) (by simp [xr, go_sem, pn]) ?_
    simp only [xw, p0, p1, p2, p3]
    rw [← hk]
    clear hk pn tl tg
    have kc : (k : Int) ≤ (dc : Int) := by have := hki.out; have := hgc.out; omega
    have hPk := hideit (PL.pre hD.out.pl (by have := hki.out; omega : k ≤ i)).2
    have hD0 := hideit (hD.out.bv 0)
    have hD1 : Hid (¬ (hasP x k (fun _ => 512) F ∧ isTx x (fun _ => 512) F)) := fun h => by
      have h1 := (tx_back (m := n + 2) (ls' := fun _ => 512) (fs' := F) hok.out (Nat.le_refl _) (fun _ _ => rfl) (fun _ _ => by rw [hF.out])).2.2.1
      have h2 := h.1.2.2.2
      have := hki.out
      have := hi.out
      omega
    go_upto_region 13 with (fail)
    refine wp_region_lit ?_
    refine xm [some (.int .u64 (x.toNat : Int)), some (.slice (some ⟨g, 0, none⟩) i dc), some (.int .i64 (k : Int)), some (.slice (some ⟨g, 0, none⟩) k dc)] (by kernel_rfl) (by simp [xr, go_sem, kc]) ?_
    simp only [xw, p0, p1, p2, p3]
    refine wpList_call rfl (by simp [go_sem]) ((parse_notB x (.slice (some ⟨g, 0, none⟩) k dc) k ud (fun _ => 512) F y5 hT.out hPk.out (fun h => hD0.out (by have := hki.out; omega)) (fun _ _ => by decide) (by have := hki.out; have := hi3.out; omega) hD1.out).mono ?_)
    rintro e y7 ⟨rfl, hX8⟩
    refine ⟨_, rfl, ?_⟩
    simp only [Act.put, List.setIfInBounds_toArray, List.set_cons_zero, List.set_cons_succ]
    replace hT := hideit (hT.out.ext hX8)
    replace hPk := hideit (hPk.out.ext hX8)
    replace hD := hideit (hD.out.ext hX8)
    replace hE := hideit (Ext.trans hE.out hX8)

    clear hX8
    refine xm [some (.tuple #[.slice none 0 0, .int .i64 0, .int .i64 110]), some (.slice none 0 0), some (.int .i64 0), some (.int .i64 110), some (.slice none 0 0), some (.int .i64 0), some (.int .i64 110)] (by kernel_rfl) (by simp [xr, go_sem]) ?_
    simp only [xw, p0, p1, p2, p3]
    go_upto_region 14 with (fail)
    refine wp_region_lit ?_
    refine xm [some (.slice none 0 0), some (.int .i64 0), some (.bool true), some (.bool true), some (.int .i64 0), some (.bool true), some (.bool true), some (.bool true), some (.int .i64 110), some (.bool true), some (.bool true), some (.bool true)] (by kernel_rfl) (by simp [xr, go_sem]) ?_
    simp only [xw, p0, p1, p2, p3]
    go_wp2
    go_ret
    exact ⟨rfl, hE.out⟩
end Go.Proofs.YtedgopionpdfeaaDoor
