/-
  How keys that came in read, with their size; an append of epochs to an empty list; a step of a region that draws.
-/
import Derived.Test.YtomalmnpojcloaaSOpen
import Derived.Test.YtomalmnpojcloaaRk4
import Derived.SizedLaws
import Derived.OrdersHeld
namespace Go.Proofs.Ytomalmnpojcloaa
open Go.ChangeShapes Go.WideShapes Go.ChangeAt Go.RowKit Go.BigFrame
/-- keys that came in -/
def KArgZ (v : Value) (W : World) : Prop := ∃ u n xs fs t, v = .agg (row 33 (kyv u t)).toArray ∧ EV u n xs fs W ∧ inW n xs ∧ n * 72 ≤ 140737488351232
set_option maxRecDepth 100000 in
theorem open_keysZ {H : Type} {enc : TypeId × Value → H} {W : World} {r : Reach} {b0 base : Nat} {spare : Nat → Bool} {held : Bool} {v : Value} {d : DataW H} {p : List MemPlace} {ts : List TypeId} {ds : List (DataW H)}
    (hv : Value.okWide Try.prog W r b0 37 v) (h : DataW.Trod enc Try.prog W base spare held 37 v d p) (hz : (DataW.weightsEach Try.prog ts ds).all (· ≤ reachBytes) = true) (jz : Nat) (htz : ts[jz]? = some 37) (hdz : ds[jz]? = some d) : KArgZ v W := by
  obtain ⟨cs, rfl, hsz, ts, hts, _, hok⟩ := okWide_st Try.underlying37 hv
  have hC : Try.prog.cellsOf 37 = 33 := by kernel_rfl
  have c35 : Try.prog.cellsOf 35 = 1 := by kernel_rfl
  have c23 : Try.prog.cellsOf 23 = 32 := by kernel_rfl
  have hC2 : Try.prog.cellsOf 51 = 65 := by kernel_rfl
  obtain ⟨fuel, hf⟩ := h
  obtain ⟨y0, y1, m, hdp, hl, h0, h1⟩ := trod_struct2 Try.underlying37 hf
  simp only [c35, c23] at h0 h1
  rw [hC] at hl
  obtain ⟨t, e1⟩ := arr_cells Try.underlying23 h1
  have hcs : (Value.agg cs).cells.toList = cs.toList := by simp [Value.cells]
  rw [hcs] at hl h0 e1
  have hrow : ∀ u, cs.toList[0]? = some u → Value.agg cs = .agg (row 33 (kyv u t)).toArray := fun u hu => by
    rw [← row_of (g := kyv u t) hl fun i hi => ?_]
    unfold kyv
    by_cases c0 : i = 0
    · subst c0; rw [if_pos rfl]; exact hu
    · rw [if_neg c0]
      have := e1 (i - 1) (by omega)
      rw [sub_cells (by omega), show 1 + (i - 1) = i by omega] at this
      exact this
  rcases Go.Deep.open_slice Try.underlying35 h0 with ⟨e0, _⟩ | ⟨x, len, cap, m', n', D, Pl, e0, _, hlc, hm, hmm, hy0, hx⟩
  · have := congrArg (·[0]?) e0
    simp only [sub_cells (show 0 < 1 by decide)] at this
    exact ⟨_, 0, fun _ => 0, fun _ _ => 0#8, t, hrow _ this, .inl ⟨rfl, rfl⟩, fun i hi => by omega, by omega⟩
  · have hc0 := congrArg (·[0]?) e0
    simp only [sub_cells (show 0 < 1 by decide)] at hc0
    replace hc0 : cs.toList[0]? = some (.slice (some x) len cap) := hc0
    have hsp : x.spot = none := by
      obtain ⟨u, hu, hcell⟩ := hok 0 (.slice (some x) len cap) (by simpa using hc0)
      have hts0 : Try.prog.cellTypes Try.prog.depth 37 = some (35 :: List.replicate 32 5) := by kernel_rfl
      rw [hts0] at hts
      injection hts with hts
      rw [← hts] at hu
      have h35 : u = 35 := by
        have : some (35 : TypeId) = some u := by rw [← hu]; rfl
        injection this with this
        exact this.symm
      subst h35
      simp only [Cell.okWide, Try.underlying35, Cell.ok] at hcell
      exact hcell.2.2.2.1
    have hadd : ∀ i, x.add i = ⟨x.block, x.off + i, none⟩ := fun i => by
      obtain ⟨xb, xo, xs⟩ := x
      cases hsp
      unfold Addr.add
      by_cases hi : i = 0
      · subst hi; simp
      · rw [if_neg hi]
    have hx0 : x = ⟨x.block, x.off, none⟩ := by
      obtain ⟨xb, xo, xs⟩ := x
      cases hsp
      rfl
    have hlm : len ≤ m' := by rw [hmm]; split <;> omega
    have each : ∀ i, i < len → ∃ q : Int × (Nat → BitVec 8), (∀ j, j < 65 → W.cell? ⟨x.block, x.off + i * 65 + j, none⟩ = some (epv q.1 q.2 j)) ∧ -9223372036854775808 ≤ q.1 ∧ q.1 ≤ 9223372036854775807 := by
      intro i hi
      obtain ⟨cs', g1, g2⟩ := hx i (by omega)
      rw [hC2] at g1
      obtain ⟨_, hlen, hcell⟩ := World.cells?_some g1
      obtain ⟨k, f, rfl, hk⟩ := ep_cells g2
      refine ⟨(k, f), fun j hj => ?_, hk⟩
      have e := hcell j hj
      rw [add_add, hadd, ← Nat.add_assoc] at e
      rw [e]
      exact row_get 65 (epv k f) j hj
    obtain ⟨q, hq⟩ := Go.Deep.choose_lt each
    refine ⟨_, len, fun i => (q i).1, fun i => (q i).2, t, hrow _ hc0, .inr ⟨x.block, x.off, cap, ?_, hlc, fun i hi j hj => (hq i hi).1 j hj⟩, fun i hi => (hq i hi).2, ?_⟩
    · rw [← hx0]
    · have hd0 : d = .agg [y0.1, y1.1] := congrArg Prod.fst hdp
      have hy1 : y0.1 = .slice ((List.range len).map D) ((List.range (m' - len)).map fun j => D (len + j)) := congrArg Prod.fst hy0
      rw [hd0, hy1] at hdz
      have hb51 : Try.prog.bytesOf 51 = 72 := by kernel_rfl
      have hmem := DataW.weights_mem_each (P := Try.prog) htz hdz ((((List.range len).map D).length + ((List.range (m' - len)).map fun j => D (len + j)).length) * Try.prog.bytesOf 51) (by simp [DataW.weights, DataW.weightsEach, Try.underlying37, Try.underlying35])
      have hle := List.all_eq_true.1 hz _ hmem
      simp only [decide_eq_true_eq, List.length_map, List.length_range, hb51] at hle
      unfold reachBytes at hle
      have : len * 72 ≤ (len + (m' - len)) * 72 := Nat.mul_le_mul_right _ (by omega)
      omega
theorem wpOp_to {P : Program} {ops : Array Oper} {Q : Exit → Act → World → Prop} {i : Nat} {K : Act → World → Prop} {a : Act} {w : World} {o : Oper} (ho : ops[i]? = some o) (hw : Region.wanted o (yielded ops a.tmps) = true) (v : Value) (w' : World) (hr : (execOp a.eval o).run P w = .ok (.value v) w') (h : K (a.put o.dst v) w') : wpOp P ops Q i K a w := by
  unfold Go.wpOp
  rw [ho]
  simp only [hw, if_true]
  refine .inl ?_
  unfold Oper.wp
  rw [hr]
  simp only [Oper.upon]
  exact h
theorem wpOp_st {P : Program} {ops : Array Oper} {Q : Exit → Act → World → Prop} {i : Nat} {K : Act → World → Prop} {a : Act} {w : World} {o : Oper} (ho : ops[i]? = some o) (hw : Region.wanted o (yielded ops a.tmps) = true) (w' : World) (hr : (execOp a.eval o).run P w = .ok .skip w') (h : K (a.put o.dst undef) w') : wpOp P ops Q i K a w := by
  unfold Go.wpOp
  rw [ho]
  simp only [hw, if_true]
  refine .inl ?_
  unfold Oper.wp
  rw [hr]
  simp only [Oper.upon]
  exact h
theorem elem51 : ∃ i z, Try.prog.info? 51 = some i ∧ i.zero = some z ∧ i.size = 65 ∧ i.bytes = 72 ∧ z.cells.size = 65 := elem35.info
/-- epochs behind an empty list: a list of their own -/
theorem kapp (h : Nat) (u : Value) (n : Nat) (xs : Nat → Int) (fs : Nat → Nat → BitVec 8) (ty : TypeId) (X : World) (hE : EV u n xs fs X) (hb : n * 72 ≤ 140737488351232) :
    ∃ u' X', (Builtin.append_ #[35, 35] ty #[.slice (some ⟨h, 0, none⟩) 0 0, u]).run Try.prog X = .ok u' X' ∧ (∃ oa cp, u' = .slice oa n cp) ∧ EV u' n xs fs X' ∧ Ext X X' := by
  obtain ⟨i, z, e1, e2, e3, e4, e5⟩ := elem51
  rcases Nat.eq_zero_or_pos n with h0 | h0
  · subst h0
    obtain ⟨oa, cp, rfl⟩ := hE.form
    refine ⟨.slice (some ⟨h, 0, none⟩) 0 0, X, ?_, ⟨_, _, rfl⟩, .inr ⟨h, 0, 0, rfl, Nat.le_refl _, fun i hi => by omega⟩, Ext.refl _⟩
    cases oa with
    | none => simp [Builtin.append_, run_underlying Try.underlying35, sizeOf, typeInfo, e1, Builtin.lenOf, Builtin.firstCells, storeCells]
    | some ad => simp [Builtin.append_, run_underlying Try.underlying35, sizeOf, typeInfo, e1, Builtin.lenOf, Builtin.firstCells, storeCells, loadCells, loadCellsFrom]
  · rcases hE with ⟨_, hn0⟩ | ⟨a, o, cap, rfl, hc, hp⟩
    · omega
    · obtain ⟨v', w', hr, hO, hg⟩ := run_append_arg_grows (P := Try.prog) X 35 ty 51 i z 65 72 Try.underlying35 e1 e2 e3 e4 e5 (by decide) ⟨h, 0, none⟩ 0 0 [] (by simp) (fun j u hj => by simp at hj) ⟨a, o, none⟩ n cap (row (n * 65) (epL xs fs)) (by rw [row_length]) (fun j u hj => by
        obtain ⟨hj', rfl⟩ := row_some hj
        rw [add_none]
        have h1 := hp (j / 65) (by omega) (j % 65) (by omega)
        rw [show o + j / 65 * 65 + j % 65 = o + j by omega] at h1
        rw [h1]
        rfl) (by omega) (by unfold maxLen; omega) (by omega)
      rw [Nat.zero_add] at hO
      have hK : OwnK 65 X.heap.size 51 v' n (epL xs fs) w' := hO
      exact ⟨v', w', hr, hK.form, hK.ev, ⟨hg.os, hg.tape, hg.output, hg.size, fun k hk => hg.block k hk (by simp)⟩⟩
/-- a list of epochs does not lie in a block of keys -/
theorem ev_off {u : Value} {n s : Nat} {xs : Nat → Int} {fs : Nat → Nat → BitVec 8} {w : World} (h : EV u n xs fs w) (hs : w.heap[s]? = some (.cells zk37 37 (0, 0))) : ∀ a o c, u = .slice (some ⟨a, o, none⟩) n c → 0 < n → a ≠ s := fun a o c hu hn has => by
  rcases h with ⟨h1, _⟩ | ⟨a', o', cap, h1, _, hp⟩
  · rw [hu] at h1; cases h1
  · rw [hu] at h1
    injection h1 with h1 _ _
    injection h1 with h1
    injection h1 with q1 q2
    subst q1 q2 has
    have hc := hp 0 hn 0 (by decide)
    have hcell : w.cell? ⟨a, o + 0 * 65 + 0, none⟩ = zk37[o]? := by
      unfold World.cell?
      rw [hs]
      simp
    rw [hcell] at hc
    have hlt : o < 33 := by
      rcases Nat.lt_or_ge o 33 with h | h
      · exact h
      · rw [Array.getElem?_eq_none (by show 33 ≤ o; exact h)] at hc; cases hc
    have hall : ∀ o, o < 33 → ∀ x : Int, zk37[o]? ≠ some (.int .i64 x) := fun o ho x hx => by
      rw [zc37, List.getElem?_toArray, row_get 33 _ o ho] at hx
      injection hx with hx
      unfold kyv at hx
      split at hx
      · cases hx
      · injection hx with hx _
        cases hx
    exact hall o hlt _ hc
theorem EV.set37 {u : Value} {n s : Nat} {xs : Nat → Int} {fs : Nat → Nat → BitVec 8} {w : World} (h : EV u n xs fs w) (hs : w.heap[s]? = some (.cells zk37 37 (0, 0))) (vs : List Value) : EV u n xs fs (w.setCells s 0 vs) := by
  have hoff := ev_off h hs
  rcases h with h | ⟨a, o, cap, h1, h2, h3⟩
  · exact .inl h
  · rcases Nat.eq_zero_or_pos n with h0 | h0
    · exact .inr ⟨a, o, cap, h1, h2, fun i hi => by omega⟩
    · exact .inr ⟨a, o, cap, h1, h2, h3.but (But.sets _ _ _ (But.refl s w)) (hoff a o cap h1 h0)⟩
theorem heap37 (w : World) : (w.alloc (.cells zk37 37)).heap[w.heap.size]? = some (.cells zk37 37 (0, 0)) := by
  show (w.heap.push (.cells zk37 37))[w.heap.size]? = _
  simp
end Go.Proofs.Ytomalmnpojcloaa
