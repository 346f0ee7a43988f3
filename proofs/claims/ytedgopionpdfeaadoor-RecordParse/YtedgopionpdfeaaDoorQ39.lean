/-
  The document's done. The document's parts.
-/
import Derived.Test.YtedgopionpdfeaaDoorQ38
import Derived.OrdersHeld
namespace Go.Proofs.YtedgopionpdfeaaDoor
open Go.RowKit Go.BigFrame
set_option linter.unusedVariables false
theorem wpOp_to {P : Program} {ops : Array Oper} {Q : Exit → Act → World → Prop} {i : Nat} {K : Act → World → Prop} {a : Act} {w : World} {o : Oper} (ho : ops[i]? = some o) (hw : Region.wanted o (yielded ops a.tmps) = true) (v : Value) (w' : World) (hr : (execOp a.eval o).run P w = .ok (.value v) w') (h : K (a.put o.dst v) w') : wpOp P ops Q i K a w :=
  EffY.wpOp (R := fun u X => K (a.put o.dst u) X) ho (.inl ⟨hw, by rw [hr]; exact h⟩) fun _ _ h => h
theorem wpOp_call {P : Program} {ops : Array Oper} {Q : Exit → Act → World → Prop} {i : Nat} {K : Act → World → Prop} {a : Act} {w : World} {o : Oper} {f : FuncId} {args : Array Value} (ho : ops[i]? = some o) (hw : Region.wanted o (yielded ops a.tmps) = true) (hr : (execOp a.eval o).run P w = .ok (.enter f args) w)
    (hc : Calls P f args w fun e w' => ∃ v, e = .returned v ∧ K (a.put o.dst v) w') : wpOp P ops Q i K a w :=
  EffY.wpOp (R := fun u X => K (a.put o.dst u) X) ho (.inl ⟨hw, by rw [hr]; exact hc⟩) fun _ _ h => h
theorem exec_append {P : Program} {o : Oper} {a : Act} {w w' : World} (s x : Operand) (t u : TypeId) (ho : o.op = .call { callee := .builtin .append, args := #[s, x], argTypes := #[t, u] }) (v y v' : Value) (hs : a.eval s = v) (hx : a.eval x = y) (hr : (Builtin.append_ #[t, u] o.type #[v, y]).run P w = .ok v' w') : (execOp a.eval o).run P w = .ok (.value v') w' := by
  unfold execOp
  simp only [ho, resolve, invoke, builtin, Sem.run_bind, Sem.run_pure, Result.andThen_ok, List.map_toArray, List.map_cons, List.map_nil, hs, hx, hr]
theorem run_gb {w0 X : World} {n : Nat} {v : Value} {f : Nat → BitVec 8} (ty : TypeId) (h : GB w0 v n f X) (xv : Value) (m : Nat) (b : Nat → BitVec 8) (hb : BV xv m b X) (hm : 0 < m) (hnm : n + m ≤ 1000000) :
    ∃ v' Y, (Builtin.append_ #[34, 34] ty #[v, xv]).run Tryd.prog X = .ok v' Y ∧ GB w0 v' (n + m) (catF f n b) Y := by
  rcases hb with ⟨_, h0⟩ | ⟨ad, c, rfl, _, hl⟩
  · omega
  obtain ⟨i, z, e1, e2, e3, e4, e5⟩ := elem22.info
  obtain ⟨v', w', h1, h2, h3, _⟩ := run_append_own (P := Tryd.prog) X w0.heap.size 34 ty 5 i z 1 1 elem22.slice e1 e2 e3 e4 e5 (by decide) v n (row n (yv f)) h.1 ad m c (row m (yv b)) (by rw [row_length, Nat.mul_one]) (fun j u hj => by
    obtain ⟨hj', rfl⟩ := row_some hj
    exact hl.1 j hj') (fun u hu => by
    obtain ⟨j, _, rfl⟩ := List.mem_map.1 hu
    rfl) (by unfold maxLen; omega) (by omega) (Below.size h.2)
  refine ⟨v', w', h1, ?_, Below.trans h.2 (below_grown (Below.size h.2) h3 fun k hk => (h.1.lt k hk).1)⟩
  unfold OwnB
  rw [row_append n m (yv f) (yv b) (yv (catF f n b)) (fun j hj => by simp only [yv]; unfold catF; rw [if_pos hj]) (fun j hj => by simp only [yv]; unfold catF; rw [if_neg (by omega), Nat.add_sub_cancel_left])] at h2
  exact h2
theorem run_gbC {w0 X : World} {n : Nat} {f : Nat → BitVec 8} (ty : TypeId) (hE : Ext w0 X) (ad0 : Addr) (hf : BV (.slice (some ad0) n n) n f X) (xv : Value) (m : Nat) (b : Nat → BitVec 8) (hb : BV xv m b X) (hm : 0 < m) (hnm : n + m ≤ 1000000) :
    ∃ v' Y, (Builtin.append_ #[34, 34] ty #[.slice (some ad0) n n, xv]).run Tryd.prog X = .ok v' Y ∧ GB w0 v' (n + m) (catF f n b) Y ∧ Ext X Y := by
  rcases hb with ⟨_, h0⟩ | ⟨ad, c, rfl, _, hl⟩
  · omega
  have hf' : LieAt ad0 n (yv f) X := by
    rcases hf with ⟨h, _⟩ | ⟨a', c, h, _, hl⟩
    · cases h
    · injection h with h
      injection h with h
      subst h
      exact hl
  obtain ⟨i, z, e1, e2, e3, e4, e5⟩ := elem22.info
  obtain ⟨v', Y, h1, h2, h3⟩ := run_append_arg_grows (P := Tryd.prog) X 34 ty 5 i z 1 1 elem22.slice e1 e2 e3 e4 e5 (by decide) ad0 n n (row n (yv f)) (by rw [row_length, Nat.mul_one]) (fun j u hj => by
    obtain ⟨hj', rfl⟩ := row_some hj
    exact hf'.1 j hj') ad m c (row m (yv b)) (by rw [row_length, Nat.mul_one]) (fun j u hj => by
    obtain ⟨hj', rfl⟩ := row_some hj
    exact hl.1 j hj') (by omega) (by unfold maxLen; omega) (by omega)
  have hXY : Ext X Y := ⟨h3.os, h3.tape, h3.output, h3.size, fun k hk => h3.block k hk (by simp)⟩
  refine ⟨v', Y, h1, GB.of hE ?_ hXY, hXY⟩
  unfold OwnB
  rw [row_append n m (yv f) (yv b) (yv (catF f n b)) (fun j hj => by simp only [yv]; unfold catF; rw [if_pos hj]) (fun j hj => by simp only [yv]; unfold catF; rw [if_neg (by omega), Nat.add_sub_cancel_left])] at h2
  exact h2
/-- cells stay -/
def Cel (X Y : World) : Prop := (∀ p v, X.cell? p = some v → Y.cell? p = some v) ∧ X.heap.size ≤ Y.heap.size
theorem cel_ext {X Y : World} (h : Ext X Y) : Cel X Y := ⟨fun _ _ hp => cell_ext' h hp, Below.size h⟩
theorem BV.cel {v : Value} {l : Nat} {f : Nat → BitVec 8} {X Y : World} (h : BV v l f X) (k : Cel X Y) : BV v l f Y := by
  rcases h with h | ⟨a, c, h1, h2, h3⟩
  · exact .inl h
  · exact .inr ⟨a, c, h1, h2, fun j hj => k.1 _ _ (h3.1 j hj), Nat.lt_of_lt_of_le h3.2 k.2⟩
/-- the run-time's mark on bytes of a text -/
theorem conv_any {w X : World} {g n : Nat} {C : Array Value} (h : X.heap[g]? = some (.cells C 5 (0, 0))) (hE : Ext w X) (hg : w.heap.size ≤ g) : ∃ Y, (convert 34 34 (.slice (some ⟨g, 0, none⟩) n n)).run Tryd.prog X = .ok (.slice (some ⟨g, 0, none⟩) n n) Y ∧ Cel X Y ∧ Ext w Y := by
  have hsh : X.shape? g = some (5, C.size) := by
    unfold World.shape?
    rw [h]
  refine ⟨X.freeze ⟨g, C.size, none⟩ 1, ?_, ⟨fun p v hp => ?_, ?_⟩, hE.os, hE.tape, hE.output, ?_, fun k hk => ?_⟩
  · simp [convert, run_underlying Tryd.underlying34, run_underlying Tryd.underlying5, markStringish, hsh]
  · rw [← hp]
    unfold World.freeze
    rw [if_neg (by decide)]
    by_cases e : p.block = g
    · simp only [World.cell?, e, Array.getElem?_modify, h]
      simp
    · simp only [World.cell?, Array.getElem?_modify]
      rw [if_neg (fun q => e q.symm)]
  · unfold World.freeze
    rw [if_neg (by decide)]
    simp
  · unfold World.freeze
    rw [if_neg (by decide)]
    simp
    exact Below.size hE
  · unfold World.freeze
    rw [if_neg (by decide)]
    simp only [Array.getElem?_modify]
    rw [if_neg (by omega)]
    exact hE.block k hk
theorem const_new (W : World) (C : Array Value) (n : Nat) (f : Nat → BitVec 8) (hC : ∀ j, j < n → C[j]? = some (yv f j)) : (W.alloc (.cells C 5)).heap[W.heap.size]? = some (.cells C 5 (0, 0)) ∧ BV (.slice (some ⟨W.heap.size, 0, none⟩) n n) n f (W.alloc (.cells C 5)) ∧ Ext W (W.alloc (.cells C 5)) := by
  obtain ⟨h1, h2⟩ := newB W C n f hC
  refine ⟨?_, h1, h2⟩
  show (W.heap.push (.cells C 5))[W.heap.size]? = _
  simp

set_option maxRecDepth 20000 in
set_option maxHeartbeats 4000000 in
theorem rdn_any (x : BitVec 64) (v : Value) (l : Nat) (f : Nat → BitVec 8) (w : World) (hv : BV v l f w) (hl : l ≤ 140737488351232) : Calls Tryd.prog 32 #[.int .u64 (x.toNat : Int), v] w fun e w' => ∃ u, e = .returned u ∧ GB w u 512 (sealF x f l) w' := by
  have ks := hideit (rsumV v l f w hv hl)
  obtain ⟨vo, vc, rfl⟩ := hv.form
  clear hv
  have hE := hideit (Ext.refl w)
  go_enter Tryd.func32, Tryd.ntmps32
  go_upto_region 1 with (fail)
  refine wp_region_lit ?_
  refine wpList_run rfl (.slice vo l vc) (by simp [go_sem]) ?_
  simp only [Act.put, List.setIfInBounds_toArray, List.set_cons_zero, List.set_cons_succ]
  refine wpList_call rfl (by simp [go_sem]) ((ks.out).mono ?_)
  rintro e y1 ⟨rfl, hX2⟩
  refine ⟨_, rfl, ?_⟩
  simp only [Act.put, List.setIfInBounds_toArray, List.set_cons_zero, List.set_cons_succ]
  replace hE := hideit (Ext.trans hE.out hX2)

  clear hX2
  have A0 := hideit (RowAt.new y1 32 (yv fun _ => 0#8) 74)
  have AE := hideit (Below.alloc hE.out (Below.size hE.out) (.cells (row 32 (yv fun _ => 0#8)).toArray 74))
  have AB := hideit (Below.size hE.out)
  refine wpList_to rfl (.pointer (some ⟨y1.heap.size, 0, none⟩)) (y1.alloc (.cells (row 32 (yv fun _ => 0#8)).toArray 74)) (xalloc 74 (row 32 (yv fun _ => 0#8)).toArray rfl (zero74 y1)) ?_
  simp only [Act.put, List.setIfInBounds_toArray, List.set_cons_zero, List.set_cons_succ]
  generalize y1.alloc (.cells (row 32 (yv fun _ => 0#8)).toArray 74) = x4 at A0 AE ⊢
  obtain ⟨z3, ez3⟩ : ∃ b, b = y1.heap.size := ⟨_, rfl⟩
  rw [← ez3] at A0  AB ⊢
  clear ez3
  have Hz3 := A0
  clear A0
  replace hE := AE
  clear AE
  have ABz3 := AB
  clear AB
  have N0 := hideit (Hz3.out.cells (g' := yv (shaF f l)))
  have NE := hideit (below_setCells z3 (ABz3.out) (row 32 (yv (shaF f l))) 0 _ hE.out)
  refine xst rfl (x4.setCells z3 0 (row 32 (yv (shaF f l)))) (xstore 74 (.tmp 5) (.tmp 7) rfl z3 32 _ (yv (shaF f l)) rfl rfl Hz3.out info74 (fun j _ => rfl)) ?_
  simp only [Act.put]
  generalize x4.setCells z3 0 (row 32 (yv (shaF f l))) = x5 at N0 NE ⊢
  replace Hz3 := N0
  replace hE := NE
  clear N0 NE 
  clear ks
  have hD := hideit ((bv_row Hz3.out).ext (Ext.draw (Ext.refl _)))
  have hS := hideit (Ext.draw hE.out)
  go_upto_region 2 with (fail)
  refine wp_region_held (S := fun X => Ext w X) (by kernel_rfl) ?_
  show wpAnyH _ _ _ _ _ 9 _ _ x5.drew
  generalize x5.drew = W0 at *
  refine wpAnyH_take (i := 2) (v := .int .u64 (x.toNat : Int)) rfl (by kernel_rfl) (by kernel_rfl) (by kernel_rfl) (fun _ _ _ h => h) (.inl ⟨rfl, fun X hX => by simp [go_sem]⟩) hS.out ?_
  simp only [List.getElem_toArray, List.getElem_cons_zero, List.getElem_cons_succ, Act.put, List.setIfInBounds_toArray, List.set_cons_zero, List.set_cons_succ]
  refine wpAnyH_take (i := 5) (v := .slice (some ⟨z3, 0, none⟩) 32 32) rfl (by kernel_rfl) (by kernel_rfl) (by kernel_rfl) (fun _ _ _ h => h) (.inl ⟨rfl, fun X hX => by have q := cut74 z3 X; simp [go_sem, q]⟩) hS.out ?_
  simp only [List.getElem_toArray, List.getElem_cons_zero, List.getElem_cons_succ, Act.put, List.setIfInBounds_toArray, List.set_cons_zero, List.set_cons_succ]
  refine wpAnyH_all (rs := [0, 3]) (by kernel_rfl) (by decide) ?_
  intro i hi
  rcases (by simpa using hi : i = 0 ∨ i = 3) with rfl | rfl
  · obtain ⟨hC0, hC1, hC2⟩ := const_new W0 #[.int .u8 68, .int .u8 79, .int .u8 78, .int .u8 69] 4 (labF sDN) (fun j hj => by rcases (by omega : j = 0 ∨ j = 1 ∨ j = 2 ∨ j = 3) with rfl | rfl | rfl | rfl <;> rfl)
    have hgw : Hid (w.heap.size ≤ W0.heap.size) := hideit (Below.size hS.out)
    replace hD := hideit (hD.out.cel (cel_ext hC2))
    replace hS := hideit (Ext.trans hS.out hC2)
    refine wpOp_to rfl rfl (.slice (some ⟨W0.heap.size, 0, none⟩) 4 4) (W0.alloc (.cells #[.int .u8 68, .int .u8 79, .int .u8 78, .int .u8 69] 5)) (by simp [go_sem]) ⟨hS.out, ?_⟩
    simp only [List.getElem_toArray, List.getElem_cons_zero, Act.put, List.setIfInBounds_toArray, List.set_cons_zero, List.set_cons_succ]
    clear hC2
    generalize W0.alloc (.cells #[.int .u8 68, .int .u8 79, .int .u8 78, .int .u8 69] 5) = W1 at *
    generalize W0.heap.size = cg at *
    replace hC1 := hideit hC1
    replace hC0 := hideit hC0
    refine wpAnyH_all (rs := [1, 3]) (by kernel_rfl) (by decide) ?_
    intro i hi
    rcases (by simpa using hi : i = 1 ∨ i = 3) with rfl | rfl
    · obtain ⟨W2, hcv, hcel, hcE⟩ := conv_any (n := 4) hC0.out hS.out hgw.out
      replace hD := hideit (hD.out.cel hcel)
      replace hC1 := hideit (hC1.out.cel hcel)
      replace hS := hideit hcE
      refine wpOp_to rfl rfl (.slice (some ⟨cg, 0, none⟩) 4 4) W2 (by simp [go_sem, hcv]) ⟨hS.out, ?_⟩
      simp only [List.getElem_toArray, List.getElem_cons_zero, List.getElem_cons_succ, Act.put, List.setIfInBounds_toArray, List.set_cons_zero, List.set_cons_succ]
      clear hcv hcel hcE hC0 hgw
      refine wpAnyH_all (rs := [3]) (by kernel_rfl) (by decide) ?_
      intro i hi
      obtain rfl : i = 3 := by simpa using hi
      refine wpOp_call rfl rfl (by simp [go_sem]) ((number_any 8 x W2 (by decide)).mono ?_)
      rintro e W3 ⟨nv, rfl, hN0, hX⟩
      have hN := hideit hN0.bv
      obtain ⟨no, nc, rfl⟩ := hN.out.form
      replace hD := hideit (hD.out.cel (cel_ext hX))
      replace hC1 := hideit (hC1.out.cel (cel_ext hX))
      replace hS := hideit (Ext.trans hS.out hX)
      refine ⟨_, rfl, hS.out, ?_⟩
      simp only [List.getElem_toArray, List.getElem_cons_zero, List.getElem_cons_succ, Act.put, List.setIfInBounds_toArray, List.set_cons_zero, List.set_cons_succ]
      clear hX hN0
      refine wpAnyH_all (rs := [4]) (by kernel_rfl) (by decide) ?_
      intro i hi
      obtain rfl : i = 4 := by simpa using hi
      obtain ⟨v5, W5, hr5, G5, hX5⟩ := run_gbC 34 hS.out ⟨cg, 0, none⟩ hC1.out (.slice no 8 nc) 8 (byB x) hN.out (by decide) (by decide)
      replace G5 : GB w v5 12 (begF sDN x) W5 := G5
      replace hD := hideit (hD.out.ext hX5)
      refine wpOp_to rfl rfl v5 W5 (exec_append (.tmp 9) (.tmp 11) 34 34 rfl _ _ _ rfl rfl hr5) ⟨G5.2, ?_⟩
      simp only [List.getElem_toArray, List.getElem_cons_zero, List.getElem_cons_succ, Act.put, List.setIfInBounds_toArray, List.set_cons_zero, List.set_cons_succ]
      clear hr5 hX5 hC1 hN hS
      refine wpAnyH_all (rs := [6]) (by kernel_rfl) (by decide) ?_
      intro i hi
      obtain rfl : i = 6 := by simpa using hi
      obtain ⟨v6, W6, hr6, G6⟩ := run_gb 34 G5 (.slice (some ⟨z3, 0, none⟩) 32 32) 32 (shaF f l) hD.out (by decide) (by decide)
      replace G6 : GB w v6 44 (catF (begF sDN x) 12 (shaF f l)) W6 := G6
      refine wpOp_to rfl rfl v6 W6 (exec_append (.tmp 12) (.tmp 13) 34 34 rfl _ _ _ rfl rfl hr6) ⟨G6.2, ?_⟩
      simp only [List.getElem_toArray, List.getElem_cons_zero, List.getElem_cons_succ, Act.put, List.setIfInBounds_toArray, List.set_cons_zero, List.set_cons_succ]
      clear hr6 hD G5
      refine wpAnyH_all (rs := [7]) (by kernel_rfl) (by decide) ?_
      intro i hi
      obtain rfl : i = 7 := by simpa using hi
      refine wpOp_call rfl rfl (by simp [go_sem]) ((rfill_any w.heap.size 44 v6 _ W6 G6.1 (by decide) (by decide) (Below.size G6.2)).mono ?_)
      rintro e W7 ⟨u, rfl, hO7, hX7⟩
      have hE7 : Hid (Ext w W7) := Below.trans G6.2 hX7
      refine ⟨_, rfl, hE7.out, ?_⟩
      simp only [List.getElem_toArray, List.getElem_cons_zero, List.getElem_cons_succ, Act.put, List.setIfInBounds_toArray, List.set_cons_zero, List.set_cons_succ]
      clear hX7 G6
      replace hO7 := hideit hO7
      refine wpAnyH_all (rs := [8]) (by kernel_rfl) (by decide) ?_
      intro i hi
      obtain rfl : i = 8 := by simpa using hi
      refine wpOp_to rfl rfl u W7 (by simp [go_sem]) ⟨hE7.out, ?_⟩
      simp only [List.getElem_toArray, List.getElem_cons_zero, List.getElem_cons_succ, Act.put, List.setIfInBounds_toArray, List.set_cons_zero, List.set_cons_succ]
      refine wpAnyH_done (by kernel_rfl) ?_ _
      go_wp2
      go_ret
      exact ⟨u, rfl, hO7.out, hE7.out⟩
    · refine wpOp_call rfl rfl (by simp [go_sem]) ((number_any 8 x W1 (by decide)).mono ?_)
      rintro e W2 ⟨nv, rfl, hN0, hX⟩
      have hN := hideit hN0.bv
      obtain ⟨no, nc, rfl⟩ := hN.out.form
      replace hD := hideit (hD.out.cel (cel_ext hX))
      replace hC1 := hideit (hC1.out.cel (cel_ext hX))
      replace hC0 := hideit ((hX.block _ (Array.getElem?_eq_some_iff.1 hC0.out).1).trans hC0.out)
      replace hS := hideit (Ext.trans hS.out hX)
      refine ⟨_, rfl, hS.out, ?_⟩
      simp only [List.getElem_toArray, List.getElem_cons_zero, List.getElem_cons_succ, Act.put, List.setIfInBounds_toArray, List.set_cons_zero, List.set_cons_succ]
      clear hX hN0
      refine wpAnyH_all (rs := [1]) (by kernel_rfl) (by decide) ?_
      intro i hi
      obtain rfl : i = 1 := by simpa using hi
      obtain ⟨W3, hcv, hcel, hcE⟩ := conv_any (n := 4) hC0.out hS.out hgw.out
      replace hD := hideit (hD.out.cel hcel)
      replace hC1 := hideit (hC1.out.cel hcel)
      replace hN := hideit (hN.out.cel hcel)
      replace hS := hideit hcE
      refine wpOp_to rfl rfl (.slice (some ⟨cg, 0, none⟩) 4 4) W3 (by simp [go_sem, hcv]) ⟨hS.out, ?_⟩
      simp only [List.getElem_toArray, List.getElem_cons_zero, List.getElem_cons_succ, Act.put, List.setIfInBounds_toArray, List.set_cons_zero, List.set_cons_succ]
      clear hcv hcel hcE hC0 hgw
      refine wpAnyH_all (rs := [4]) (by kernel_rfl) (by decide) ?_
      intro i hi
      obtain rfl : i = 4 := by simpa using hi
      obtain ⟨v5, W5, hr5, G5, hX5⟩ := run_gbC 34 hS.out ⟨cg, 0, none⟩ hC1.out (.slice no 8 nc) 8 (byB x) hN.out (by decide) (by decide)
      replace G5 : GB w v5 12 (begF sDN x) W5 := G5
      replace hD := hideit (hD.out.ext hX5)
      refine wpOp_to rfl rfl v5 W5 (exec_append (.tmp 9) (.tmp 11) 34 34 rfl _ _ _ rfl rfl hr5) ⟨G5.2, ?_⟩
      simp only [List.getElem_toArray, List.getElem_cons_zero, List.getElem_cons_succ, Act.put, List.setIfInBounds_toArray, List.set_cons_zero, List.set_cons_succ]
      clear hr5 hX5 hC1 hN hS
      refine wpAnyH_all (rs := [6]) (by kernel_rfl) (by decide) ?_
      intro i hi
      obtain rfl : i = 6 := by simpa using hi
      obtain ⟨v6, W6, hr6, G6⟩ := run_gb 34 G5 (.slice (some ⟨z3, 0, none⟩) 32 32) 32 (shaF f l) hD.out (by decide) (by decide)
      replace G6 : GB w v6 44 (catF (begF sDN x) 12 (shaF f l)) W6 := G6
      refine wpOp_to rfl rfl v6 W6 (exec_append (.tmp 12) (.tmp 13) 34 34 rfl _ _ _ rfl rfl hr6) ⟨G6.2, ?_⟩
      simp only [List.getElem_toArray, List.getElem_cons_zero, List.getElem_cons_succ, Act.put, List.setIfInBounds_toArray, List.set_cons_zero, List.set_cons_succ]
      clear hr6 hD G5
      refine wpAnyH_all (rs := [7]) (by kernel_rfl) (by decide) ?_
      intro i hi
      obtain rfl : i = 7 := by simpa using hi
      refine wpOp_call rfl rfl (by simp [go_sem]) ((rfill_any w.heap.size 44 v6 _ W6 G6.1 (by decide) (by decide) (Below.size G6.2)).mono ?_)
      rintro e W7 ⟨u, rfl, hO7, hX7⟩
      have hE7 : Hid (Ext w W7) := Below.trans G6.2 hX7
      refine ⟨_, rfl, hE7.out, ?_⟩
      simp only [List.getElem_toArray, List.getElem_cons_zero, List.getElem_cons_succ, Act.put, List.setIfInBounds_toArray, List.set_cons_zero, List.set_cons_succ]
      clear hX7 G6
      replace hO7 := hideit hO7
      refine wpAnyH_all (rs := [8]) (by kernel_rfl) (by decide) ?_
      intro i hi
      obtain rfl : i = 8 := by simpa using hi
      refine wpOp_to rfl rfl u W7 (by simp [go_sem]) ⟨hE7.out, ?_⟩
      simp only [List.getElem_toArray, List.getElem_cons_zero, List.getElem_cons_succ, Act.put, List.setIfInBounds_toArray, List.set_cons_zero, List.set_cons_succ]
      refine wpAnyH_done (by kernel_rfl) ?_ _
      go_wp2
      go_ret
      exact ⟨u, rfl, hO7.out, hE7.out⟩
  · refine wpOp_call rfl rfl (by simp [go_sem]) ((number_any 8 x W0 (by decide)).mono ?_)
    rintro e W1 ⟨nv, rfl, hN0, hX⟩
    have hN := hideit hN0.bv
    obtain ⟨no, nc, rfl⟩ := hN.out.form
    replace hD := hideit (hD.out.cel (cel_ext hX))
    replace hS := hideit (Ext.trans hS.out hX)
    refine ⟨_, rfl, hS.out, ?_⟩
    simp only [List.getElem_toArray, List.getElem_cons_zero, List.getElem_cons_succ, Act.put, List.setIfInBounds_toArray, List.set_cons_zero, List.set_cons_succ]
    clear hX hN0
    refine wpAnyH_all (rs := [0]) (by kernel_rfl) (by decide) ?_
    intro i hi
    obtain rfl : i = 0 := by simpa using hi
    obtain ⟨hC0, hC1, hC2⟩ := const_new W1 #[.int .u8 68, .int .u8 79, .int .u8 78, .int .u8 69] 4 (labF sDN) (fun j hj => by rcases (by omega : j = 0 ∨ j = 1 ∨ j = 2 ∨ j = 3) with rfl | rfl | rfl | rfl <;> rfl)
    have hgw : Hid (w.heap.size ≤ W1.heap.size) := hideit (Below.size hS.out)
    replace hD := hideit (hD.out.cel (cel_ext hC2))
    replace hN := hideit (hN.out.cel (cel_ext hC2))
    replace hS := hideit (Ext.trans hS.out hC2)
    refine wpOp_to rfl rfl (.slice (some ⟨W1.heap.size, 0, none⟩) 4 4) (W1.alloc (.cells #[.int .u8 68, .int .u8 79, .int .u8 78, .int .u8 69] 5)) (by simp [go_sem]) ⟨hS.out, ?_⟩
    simp only [List.getElem_toArray, List.getElem_cons_zero, Act.put, List.setIfInBounds_toArray, List.set_cons_zero, List.set_cons_succ]
    clear hC2
    generalize W1.alloc (.cells #[.int .u8 68, .int .u8 79, .int .u8 78, .int .u8 69] 5) = W2 at *
    generalize W1.heap.size = cg at *
    replace hC1 := hideit hC1
    replace hC0 := hideit hC0
    refine wpAnyH_all (rs := [1]) (by kernel_rfl) (by decide) ?_
    intro i hi
    obtain rfl : i = 1 := by simpa using hi
    obtain ⟨W3, hcv, hcel, hcE⟩ := conv_any (n := 4) hC0.out hS.out hgw.out
    replace hD := hideit (hD.out.cel hcel)
    replace hN := hideit (hN.out.cel hcel)
    replace hC1 := hideit (hC1.out.cel hcel)
    replace hS := hideit hcE
    refine wpOp_to rfl rfl (.slice (some ⟨cg, 0, none⟩) 4 4) W3 (by simp [go_sem, hcv]) ⟨hS.out, ?_⟩
    simp only [List.getElem_toArray, List.getElem_cons_zero, List.getElem_cons_succ, Act.put, List.setIfInBounds_toArray, List.set_cons_zero, List.set_cons_succ]
    clear hcv hcel hcE hC0 hgw
    refine wpAnyH_all (rs := [4]) (by kernel_rfl) (by decide) ?_
    intro i hi
    obtain rfl : i = 4 := by simpa using hi
    obtain ⟨v5, W5, hr5, G5, hX5⟩ := run_gbC 34 hS.out ⟨cg, 0, none⟩ hC1.out (.slice no 8 nc) 8 (byB x) hN.out (by decide) (by decide)
    replace G5 : GB w v5 12 (begF sDN x) W5 := G5
    replace hD := hideit (hD.out.ext hX5)
    refine wpOp_to rfl rfl v5 W5 (exec_append (.tmp 9) (.tmp 11) 34 34 rfl _ _ _ rfl rfl hr5) ⟨G5.2, ?_⟩
    simp only [List.getElem_toArray, List.getElem_cons_zero, List.getElem_cons_succ, Act.put, List.setIfInBounds_toArray, List.set_cons_zero, List.set_cons_succ]
    clear hr5 hX5 hC1 hN hS
    refine wpAnyH_all (rs := [6]) (by kernel_rfl) (by decide) ?_
    intro i hi
    obtain rfl : i = 6 := by simpa using hi
    obtain ⟨v6, W6, hr6, G6⟩ := run_gb 34 G5 (.slice (some ⟨z3, 0, none⟩) 32 32) 32 (shaF f l) hD.out (by decide) (by decide)
    replace G6 : GB w v6 44 (catF (begF sDN x) 12 (shaF f l)) W6 := G6
    refine wpOp_to rfl rfl v6 W6 (exec_append (.tmp 12) (.tmp 13) 34 34 rfl _ _ _ rfl rfl hr6) ⟨G6.2, ?_⟩
    simp only [List.getElem_toArray, List.getElem_cons_zero, List.getElem_cons_succ, Act.put, List.setIfInBounds_toArray, List.set_cons_zero, List.set_cons_succ]
    clear hr6 hD G5
    refine wpAnyH_all (rs := [7]) (by kernel_rfl) (by decide) ?_
    intro i hi
    obtain rfl : i = 7 := by simpa using hi
    refine wpOp_call rfl rfl (by simp [go_sem]) ((rfill_any w.heap.size 44 v6 _ W6 G6.1 (by decide) (by decide) (Below.size G6.2)).mono ?_)
    rintro e W7 ⟨u, rfl, hO7, hX7⟩
    have hE7 : Hid (Ext w W7) := Below.trans G6.2 hX7
    refine ⟨_, rfl, hE7.out, ?_⟩
    simp only [List.getElem_toArray, List.getElem_cons_zero, List.getElem_cons_succ, Act.put, List.setIfInBounds_toArray, List.set_cons_zero, List.set_cons_succ]
    clear hX7 G6
    replace hO7 := hideit hO7
    refine wpAnyH_all (rs := [8]) (by kernel_rfl) (by decide) ?_
    intro i hi
    obtain rfl : i = 8 := by simpa using hi
    refine wpOp_to rfl rfl u W7 (by simp [go_sem]) ⟨hE7.out, ?_⟩
    simp only [List.getElem_toArray, List.getElem_cons_zero, List.getElem_cons_succ, Act.put, List.setIfInBounds_toArray, List.set_cons_zero, List.set_cons_succ]
    refine wpAnyH_done (by kernel_rfl) ?_ _
    go_wp2
    go_ret
    exact ⟨u, rfl, hO7.out, hE7.out⟩
end Go.Proofs.YtedgopionpdfeaaDoor
namespace Go.Proofs.YtedgopionpdfeaaDoor
open Go.RowKit Go.BigFrame
set_option linter.unusedVariables false
theorem by_le1 (g : Nat → BitVec 8) (m : Nat) (hm : m < 1) : byB (leN g 1) m = g m := by
  apply BitVec.eq_of_toNat_eq
  rw [byB_nat, (leN_nat g 1 (by decide)).1]
  have h0 := (g 0).isLt
  simp only [leS]
  obtain rfl : m = 0 := by omega
  omega
theorem by_le2 (g : Nat → BitVec 8) (m : Nat) (hm : m < 2) : byB (leN g 2) m = g m := by
  apply BitVec.eq_of_toNat_eq
  rw [byB_nat, (leN_nat g 2 (by decide)).1]
  have h0 := (g 0).isLt
  have h1 := (g 1).isLt
  simp only [leS]
  rcases (by omega : m = 0 ∨ m = 1) with rfl | rfl <;> omega
theorem by_le4 (g : Nat → BitVec 8) (m : Nat) (hm : m < 4) : byB (leN g 4) m = g m := by
  apply BitVec.eq_of_toNat_eq
  rw [byB_nat, (leN_nat g 4 (by decide)).1]
  have h0 := (g 0).isLt
  have h1 := (g 1).isLt
  have h2 := (g 2).isLt
  have h3 := (g 3).isLt
  simp only [leS]
  rcases (by omega : m = 0 ∨ m = 1 ∨ m = 2 ∨ m = 3) with rfl | rfl | rfl | rfl <;> omega
theorem by_le8 (g : Nat → BitVec 8) (m : Nat) (hm : m < 8) : byB (leN g 8) m = g m := by
  apply BitVec.eq_of_toNat_eq
  rw [byB_nat, (leN_nat g 8 (by decide)).1]
  have h0 := (g 0).isLt
  have h1 := (g 1).isLt
  have h2 := (g 2).isLt
  have h3 := (g 3).isLt
  have h4 := (g 4).isLt
  have h5 := (g 5).isLt
  have h6 := (g 6).isLt
  have h7 := (g 7).isLt
  simp only [leS]
  rcases (by omega : m = 0 ∨ m = 1 ∨ m = 2 ∨ m = 3 ∨ m = 4 ∨ m = 5 ∨ m = 6 ∨ m = 7) with rfl | rfl | rfl | rfl | rfl | rfl | rfl | rfl <;> omega
theorem ofNat_toNat (x : BitVec 64) : BitVec.ofNat 64 x.toNat = x := by
  apply BitVec.eq_of_toNat_eq
  rw [BitVec.toNat_ofNat, Nat.mod_eq_of_lt x.isLt]
theorem bW_of (x : BitVec 64) : bW ((x.toNat : Nat) : Int) = x := by
  unfold bW
  rw [Int.toNat_natCast, ofNat_toNat]
/-- bytes are a plan's, as they say, if the name and the zeros are -/
theorem plan_of (f : Nat → BitVec 8) (hn : cP f ≤ 64) : (∀ j, j < 512 → planF (nP f) (tP f) (cP f) (bP f) j = f j) ↔ (∀ j, j < 4 → f j = labF sPL j) ∧ ∀ i, i < 490 - 4 * cP f → f (22 + 4 * cP f + i) = 0#8 := by
  constructor
  · intro h
    refine ⟨fun j hj => ?_, fun i hi => ?_⟩
    · rw [← h j (by omega), planF_name _ _ _ _ j hj]
    · rw [← h _ (by omega), planF_rest _ _ _ _ _ (by omega)]
  · intro h j hj
    by_cases h1 : j < 4
    · rw [planF_name _ _ _ _ j h1, h.1 j h1]
    by_cases h2 : j < 12
    · obtain ⟨k, rfl⟩ : ∃ k, j = 4 + k := ⟨j - 4, by omega⟩
      rw [planF_num _ _ _ _ k (by omega)]
      exact by_le8 (shF f 4) k (by omega)
    by_cases h3 : j < 22 + 4 * cP f
    · obtain ⟨k, rfl⟩ : ∃ k, j = 12 + k := ⟨j - 12, by omega⟩
      rw [planF_list _ _ _ _ k (by omega)]
      by_cases h4 : k < 2
      · rw [plB_cnt _ _ _ k h4]
        unfold cP
        rw [ofNat_toNat]
        exact by_le2 (shF f 12) k h4
      by_cases h5 : k < 10
      · obtain ⟨m, rfl⟩ : ∃ m, k = 2 + m := ⟨k - 2, by omega⟩
        rw [plB_trn _ _ _ m (by omega)]
        have := by_le8 (shF f 14) m (by omega)
        rw [show 12 + (2 + m) = 14 + m by omega]
        exact this
      · obtain ⟨m, q, hq, rfl⟩ : ∃ m q, q < 4 ∧ k = 10 + (4 * m + q) := ⟨(k - 10) / 4, (k - 10) % 4, by omega, by omega⟩
        rw [plB_num _ _ _ m q hq]
        unfold bP gtI
        rw [bW_of, by_le4 _ q hq]
        show f (22 + (4 * m + q)) = _
        rw [show 12 + (10 + (4 * m + q)) = 22 + (4 * m + q) by omega]
    · obtain ⟨i, rfl⟩ : ∃ i, j = 22 + 4 * cP f + i := ⟨j - (22 + 4 * cP f), by omega⟩
      rw [planF_rest _ _ _ _ _ (by omega), h.2 i (by omega)]
theorem isPl_iff (f : Nat → BitVec 8) : isPl 512 f ↔ nP f ≠ 0#64 ∧ (rbs (cP f) (bP f) ∧ 1 ≤ cP f) ∧ cP f ≤ 64 ∧ tP f >>> cP f = 0#64 ∧ (bS 512 (planF (nP f) (tP f) (cP f) (bP f))).toList = (bS 512 f).toList := by
  constructor
  · rintro ⟨_, h1, h2, h3, h4⟩
    refine ⟨h4.1, ⟨h4.2.2.2.2, h4.2.1⟩, h4.2.2.1, h4.2.2.2.1, (bS_list _ _ _ _).2 (decide_eq_true ⟨rfl, (plan_of f h4.2.2.1).2 ⟨fun j hj => ?_, (zB_spec _).1 h3⟩⟩)⟩
    exact (of_decide_eq_true h1).2 j hj
  · rintro ⟨h1, ⟨h2, h3⟩, h4, h5, h6⟩
    obtain ⟨q1, q2⟩ := (plan_of f h4).1 (of_decide_eq_true ((bS_list _ _ _ _).1 h6)).2
    exact ⟨rfl, decide_eq_true ⟨rfl, q1⟩, by omega, (zB_spec _).2 q2, h1, h3, h4, h5, h2⟩
/-- numbers of one's own since a world -/
def GI (w0 : World) (v : Value) (n : Nat) (g : Nat → Int) (X : World) : Prop := OwnB w0.heap.size 3 v n (fun j => .int .i64 (g j)) X ∧ Ext w0 X
theorem GI.ext {w0 : World} {v : Value} {n : Nat} {g : Nat → Int} {X Y : World} (h : GI w0 v n g X) (k : Ext X Y) : GI w0 v n g Y := ⟨h.1.ext k, Ext.trans h.2 k⟩
theorem GI.il {w0 : World} {v : Value} {n : Nat} {g : Nat → Int} {X : World} (h : GI w0 v n g X) (hk : ∀ j, j < n → okI (g j)) : IL v n g X := h.1.il hk
theorem GI.form {w0 : World} {v : Value} {n : Nat} {g : Nat → Int} {X : World} (h : GI w0 v n g X) (hk : ∀ j, j < n → okI (g j)) : ∃ o c, v = .slice o n c := (h.il hk).form
theorem GI.nil (w0 : World) {X : World} (h : Ext w0 X) (g : Nat → Int) : GI w0 (.slice none 0 0) 0 g X := ⟨own_nil _ _ _ _, h⟩
theorem wpList_gi {ops : Array Oper} {rest : List Oper} {o : Oper} {a : Act} {Q : Exit → Act → World → Prop} {w0 X : World} {v : Value} {n : Nat} {g : Nat → Int} (hgd : o.guard = none) (s x : Operand)
    (ho : o.op = .call { callee := .builtin .append, args := #[s, x], argTypes := #[36, 36] }) (hs : a.eval s = v) (hG : GI w0 v n g X) (b : Nat) (z : Int) (hx : a.eval x = .slice (some ⟨b, 0, none⟩) 1 1) (hb : RowAt b 1 (fun _ => .int .i64 z) X) (hz : z = g n) (hn : n ≤ 100000)
    (h : ∀ v' X', GI w0 v' (n + 1) g X' → wpList Tryd.prog ops Q rest (a.put o.dst v') X') : wpList Tryd.prog ops Q (o :: rest) a X := by
  refine wpList_growE (n := n) (base := w0.heap.size) elem36 hgd s x ho hs hG.1 ⟨b, 0, none⟩ 1 1 (fun _ => .int .i64 z) (fun j => .int .i64 (g j)) hx (RowAt.lie hb 1 (Nat.le_refl _)) (fun j hj => rfl) (fun j hj => rfl) (fun j hj => by rw [show n + j = n by omega, hz]) (by omega) (by omega) (Below.size hG.2) ?_
  intro v' X' hO hg
  exact h v' X' ⟨hO, Below.trans hG.2 (below_grown (Below.size hG.2) hg fun k hk => (hG.1.lt k hk).1)⟩
theorem res4 {fn : Func} {t u v x : Tmp} (h : fn.results = #[.tmp t, .tmp u, .tmp v, .tmp x]) (tmps : Array Value) (P : Program) (w : World) : (results fn tmps).run P w = .ok (.tuple #[tmps.getD t undef, tmps.getD u undef, tmps.getD v undef, tmps.getD x undef]) w := by
  simp [results, h]
/-- what the document's parts answers -/
def PtQ (w : World) (l : Nat) (f : Nat → BitVec 8) (e : Ending) (w' : World) : Prop :=
  Ext w w' ∧ ((isPl l f ∧ ∃ v, e = .returned (.tuple #[.int .u64 ((nP f).toNat : Int), v, .int .u64 ((tP f).toNat : Int), .int .i64 0]) ∧ GI w v (cP f) (bP f) w') ∨ (¬ isPl l f ∧ e = .returned (.tuple #[.int .u64 0, .slice none 0 0, .int .u64 0, .int .i64 110])))
set_option maxRecDepth 20000 in
set_option maxHeartbeats 4000000 in
theorem parts_len (u : Value) (l : Nat) (f : Nat → BitVec 8) (w : World) (hu : BV u l f w) (hl : l ≠ 512) : Calls Tryd.prog 37 #[u] w (PtQ w l f) := by
  obtain ⟨oa, cp, rfl⟩ := hu.form
  have hl2 : ¬ (l : Int) = 512 := by omega
  have hno : Hid (¬ isPl l f) := fun h => hl h.1
  have hE := hideit (Ext.refl w)
  go_enter Tryd.func37, Tryd.ntmps37
  go_upto_region 1 with (fail)
  refine wp_region_lit ?_
  refine wpList_run rfl (.slice oa l cp) (by simp [go_sem]) ?_
  simp only [Act.put, List.setIfInBounds_toArray, List.set_cons_zero, List.set_cons_succ]
  refine wpList_run rfl (.int .i64 (l : Int)) (by simp [go_sem]) ?_
  simp only [Act.put, List.setIfInBounds_toArray, List.set_cons_zero, List.set_cons_succ]
  refine wpList_run rfl (.bool true) (by simp [go_sem, hl2]) ?_
  simp only [Act.put, List.setIfInBounds_toArray, List.set_cons_zero, List.set_cons_succ]
  go_wp2
  refine bodyPost_ret (res4 rfl _ _ _) rfl ?_
  exact ⟨hE.out, .inr ⟨hno.out, rfl⟩⟩
theorem le2_small (g : Nat → BitVec 8) : (leN g 2).toNat < 65536 := by
  rw [(leN_nat g 2 (by decide)).1]
  have h0 := (g 0).isLt
  have h1 := (g 1).isLt
  simp only [leS]
  omega
theorem le4_small (g : Nat → BitVec 8) : (leN g 4).toNat < 4294967296 := by
  rw [(leN_nat g 4 (by decide)).1]
  have h0 := (g 0).isLt
  have h1 := (g 1).isLt
  have h2 := (g 2).isLt
  have h3 := (g 3).isLt
  simp only [leS]
  omega
theorem shF_sh (f : Nat → BitVec 8) (n m : Nat) : shF (shF f n) m = shF f (n + m) := by
  funext j
  unfold shF
  rw [Nat.add_assoc]
theorem bP_at (f : Nat → BitVec 8) (k : Nat) : bP f k = ((leN (shF f (22 + 4 * k)) 4).toNat : Int) := by
  unfold bP gtI
  rw [shF_sh]
set_option maxRecDepth 20000 in
set_option maxHeartbeats 4000000 in
theorem parts_512 (u : Value) (f : Nat → BitVec 8) (w : World) (hu : BV u 512 f w) : Calls Tryd.prog 37 #[u] w (PtQ w 512 f) := by
  obtain ⟨ad, cap, rfl⟩ := hu.nonnil (by decide)
  obtain ⟨c1, v1⟩ := hu.cut 4 12 (by decide) (by decide)
  obtain ⟨c2, v2⟩ := hu.cut 12 14 (by decide) (by decide)
  obtain ⟨c3, v3⟩ := hu.cut 14 22 (by decide) (by decide)
  have hcap : Hid (512 ≤ cap) := by
    rcases hu with ⟨h, _⟩ | ⟨_, _, h, h2, _⟩
    · cases h
    · injection h with _ _ h
      subst h
      exact h2
  obtain ⟨x, hx⟩ : ∃ x, nP f = x := ⟨_, rfl⟩
  obtain ⟨t, ht⟩ : ∃ t, tP f = t := ⟨_, rfl⟩
  obtain ⟨c, hc⟩ : ∃ c, cP f = c := ⟨_, rfl⟩
  have hci : Hid (IntKind.i64.wrap ((leN (shF f 12) 2).toNat : Int) = (c : Int)) := hideit (by rw [← hc]; unfold cP; have := le2_small (shF f 12); rw [IntKind.wrap_i64]; omega)
  have hu0 := hideit hu
  replace hu := hideit hu
  replace v1 := hideit v1
  replace v2 := hideit v2
  replace v3 := hideit v3
  replace hx := hideit hx
  replace ht := hideit ht
  replace hc := hideit hc
  have hE := hideit (Ext.refl w)
  go_enter Tryd.func37, Tryd.ntmps37
  go_upto_region 1 with (fail)
  refine wp_region_lit ?_
  refine wpList_run rfl (.slice (some ad) 512 cap) (by simp [go_sem]) ?_
  simp only [Act.put, List.setIfInBounds_toArray, List.set_cons_zero, List.set_cons_succ]
  refine wpList_run rfl (.int .i64 512) (by simp [go_sem]) ?_
  simp only [Act.put, List.setIfInBounds_toArray, List.set_cons_zero, List.set_cons_succ]
  refine wpList_run rfl (.bool false) (by simp [go_sem]) ?_
  simp only [Act.put, List.setIfInBounds_toArray, List.set_cons_zero, List.set_cons_succ]
  go_upto_region 3 with (fail)
  replace hu := hideit (hu.out.ext (Ext.draw (Ext.refl w)))
  replace v1 := hideit (v1.out.ext (Ext.draw (Ext.refl w)))
  replace v2 := hideit (v2.out.ext (Ext.draw (Ext.refl w)))
  replace v3 := hideit (v3.out.ext (Ext.draw (Ext.refl w)))
  replace hE := hideit (Ext.draw hE.out)
  refine wp_region_lad (fun X => Ext w.drew X) [(false, 0), (false, 1), (false, 3), (false, 4), (false, 7), (false, 8), (true, 2), (true, 5), (false, 6), (true, 9), (false, 10), (false, 11), (false, 12)] (by kernel_rfl) (by kernel_rfl) (by decide +kernel) (by decide +kernel) (by decide +kernel) (by decide +kernel) (Ext.refl _) ?_
  refine wpX_f _ (.slice (some ad) 512 cap) rfl rfl (fun X _ => by simp [go_sem]) ?_
  simp only [List.getElem_toArray, List.getElem_cons_zero, Act.put, List.setIfInBounds_toArray, List.set_cons_zero, List.set_cons_succ]
  refine wpX_f _ (.slice (some (ad.add 4)) 8 (cap - 4)) rfl rfl (fun X hX => xcut 34 (.tmp 14) (.const (.int .i64 4)) (.const (.int .i64 12)) rfl ad 512 cap 4 12 rfl rfl rfl Tryd.underlying34 Tryd.sizeOf5 (by decide) c1) ?_
  simp only [List.getElem_toArray, List.getElem_cons_zero, List.getElem_cons_succ, Act.put, List.setIfInBounds_toArray, List.set_cons_zero, List.set_cons_succ]
  refine wpX_f _ (.slice (some ad) 512 cap) rfl rfl (fun X _ => by simp [go_sem]) ?_
  simp only [List.getElem_toArray, List.getElem_cons_zero, List.getElem_cons_succ, Act.put, List.setIfInBounds_toArray, List.set_cons_zero, List.set_cons_succ]
  refine wpX_f _ (.slice (some (ad.add 12)) 2 (cap - 12)) rfl rfl (fun X hX => xcut 34 (.tmp 17) (.const (.int .i64 12)) (.const (.int .i64 14)) rfl ad 512 cap 12 14 rfl rfl rfl Tryd.underlying34 Tryd.sizeOf5 (by decide) c2) ?_
  simp only [List.getElem_toArray, List.getElem_cons_zero, List.getElem_cons_succ, Act.put, List.setIfInBounds_toArray, List.set_cons_zero, List.set_cons_succ]
  refine wpX_f _ (.slice (some ad) 512 cap) rfl rfl (fun X _ => by simp [go_sem]) ?_
  simp only [List.getElem_toArray, List.getElem_cons_zero, List.getElem_cons_succ, Act.put, List.setIfInBounds_toArray, List.set_cons_zero, List.set_cons_succ]
  refine wpX_f _ (.slice (some (ad.add 14)) 8 (cap - 14)) rfl rfl (fun X hX => xcut 34 (.tmp 21) (.const (.int .i64 14)) (.const (.int .i64 22)) rfl ad 512 cap 14 22 rfl rfl rfl Tryd.underlying34 Tryd.sizeOf5 (by decide) c3) ?_
  simp only [List.getElem_toArray, List.getElem_cons_zero, List.getElem_cons_succ, Act.put, List.setIfInBounds_toArray, List.set_cons_zero, List.set_cons_succ]
  refine wpX_call _ rfl rfl (by simp [go_sem]) ((value_any (.slice (some (ad.add 4)) 8 (cap - 4)) 8 (shF f 4) w.drew v1.out (by decide)).mono ?_)
  rintro e y1 ⟨rfl, rfl⟩
  refine ⟨_, rfl, fun X => Ext w.drew X, fun X hX => hX, Ext.refl _, ?_⟩
  simp only [List.getElem_toArray, List.getElem_cons_zero, List.getElem_cons_succ, Act.put, List.setIfInBounds_toArray, List.set_cons_zero, List.set_cons_succ]
  refine wpX_call _ rfl rfl (by simp [go_sem]) ((value_any (.slice (some (ad.add 12)) 2 (cap - 12)) 2 (shF f 12) w.drew v2.out (by decide)).mono ?_)
  rintro e y2 ⟨rfl, rfl⟩
  refine ⟨_, rfl, fun X => Ext w.drew X, fun X hX => hX, Ext.refl _, ?_⟩
  simp only [List.getElem_toArray, List.getElem_cons_zero, List.getElem_cons_succ, Act.put, List.setIfInBounds_toArray, List.set_cons_zero, List.set_cons_succ]
  refine wpX_f _ (.int .i64 (c : Int)) rfl rfl (fun X _ => by simp [go_sem, hci.out]) ?_
  simp only [List.getElem_toArray, List.getElem_cons_zero, List.getElem_cons_succ, Act.put, List.setIfInBounds_toArray, List.set_cons_zero, List.set_cons_succ]
  refine wpX_call _ rfl rfl (by simp [go_sem]) ((value_any (.slice (some (ad.add 14)) 8 (cap - 14)) 8 (shF f 14) w.drew v3.out (by decide)).mono ?_)
  rintro e y3 ⟨rfl, rfl⟩
  refine ⟨_, rfl, fun X => Ext w.drew X, fun X hX => hX, Ext.refl _, ?_⟩
  simp only [List.getElem_toArray, List.getElem_cons_zero, List.getElem_cons_succ, Act.put, List.setIfInBounds_toArray, List.set_cons_zero, List.set_cons_succ]
  refine wpX_f _ (.int .u64 ((leN (shF f 4) 8).toNat : Int)) rfl rfl (fun X _ => by simp [go_sem]) ?_
  simp only [List.getElem_toArray, List.getElem_cons_zero, List.getElem_cons_succ, Act.put, List.setIfInBounds_toArray, List.set_cons_zero, List.set_cons_succ]
  refine wpX_f _ (.int .i64 (c : Int)) rfl rfl (fun X _ => by simp [go_sem]) ?_
  simp only [List.getElem_toArray, List.getElem_cons_zero, List.getElem_cons_succ, Act.put, List.setIfInBounds_toArray, List.set_cons_zero, List.set_cons_succ]
  refine wpX_f _ (.int .u64 ((leN (shF f 14) 8).toNat : Int)) rfl rfl (fun X _ => by simp [go_sem]) ?_
  simp only [List.getElem_toArray, List.getElem_cons_zero, List.getElem_cons_succ, Act.put, List.setIfInBounds_toArray, List.set_cons_zero, List.set_cons_succ]
  refine wpX_nil ?_
  have ex : leN (shF f 4) 8 = x := hx.out
  have et : leN (shF f 14) 8 = t := ht.out
  rw [ex, et]
  clear ex et v1 v2 v3 hci c1 c2 c3
  have bok : Hid (∀ j, okI (bP f j)) := fun j => bP_ok f j
  go_upto_region 4 with (fail)
  refine wp_region_lit ?_
  refine wpList_run rfl (.slice none 0 0) (by simp [go_sem]) ?_
  simp only [Act.put, List.setIfInBounds_toArray, List.set_cons_zero, List.set_cons_succ]
  go_upto_region 5 with (fail)
  refine wp_region_lit ?_
  refine wpList_run rfl (.int .i64 0) (by simp [go_sem]) ?_
  simp only [Act.put, List.setIfInBounds_toArray, List.set_cons_zero, List.set_cons_succ]
  go_wp2
  go_loopw [9, 10] (fun v i X => ∃ k : Nat, k ≤ c ∧ k ≤ 64 ∧ i = .int .i64 (k : Int) ∧ GI w v k (bP f) X) (fun _ i _ => 64 - (intOf i).toNat)
  case atStart => exact ⟨0, Nat.zero_le _, Nat.zero_le _, rfl, GI.nil w hE.out _⟩
  case round =>
    obtain ⟨k, hkc, hk64, rfl, hG⟩ := hrel
    clear hE hu
    have hE := hideit hG.2
    obtain ⟨vo, vc, rfl⟩ := hG.form fun j _ => bok.out j
    replace hG := hideit hG
    have hu := hideit (hu0.out.ext hE.out)
    by_cases hlt : k < c ∧ k < 64
    · have k1 : (k : Int) < (c : Int) := by omega
      have k2 : (k : Int) < 64 := by omega
      have e1 : IntKind.i64.wrap (4 * (k : Int)) = 4 * (k : Int) := by rw [IntKind.wrap_i64]; omega
      have e2 : IntKind.i64.wrap (22 + 4 * (k : Int)) = ((22 + 4 * k : Nat) : Int) := by rw [IntKind.wrap_i64]; omega
      have e3 : IntKind.i64.wrap (26 + 4 * (k : Int)) = ((26 + 4 * k : Nat) : Int) := by rw [IntKind.wrap_i64]; omega
      have ek : IntKind.i64.wrap ((k : Int) + 1) = ((k + 1 : Nat) : Int) := by rw [IntKind.wrap_i64]; omega
      obtain ⟨c4, v4⟩ := hu.out.cut (22 + 4 * k) (26 + 4 * k) (by omega) (by omega)
      have h4 : 26 + 4 * k - (22 + 4 * k) = 4 := by omega
      rw [h4] at v4
      have hcv : IntKind.i64.wrap ((leN (shF f (22 + 4 * k)) 4).toNat : Int) = bP f k := by
        have := le4_small (shF f (22 + 4 * k))
        rw [IntKind.wrap_i64, bP_at]
        omega
      replace v4 := hideit v4
      go_upto_region 6 with (fail)
      refine wp_region_lit ?_
      refine wpList_run rfl (.int .i64 (k : Int)) (by simp [go_sem]) ?_
      simp only [Act.put, List.setIfInBounds_toArray, List.set_cons_zero, List.set_cons_succ]
      refine wpList_run rfl (.int .i64 (c : Int)) (by simp [go_sem]) ?_
      simp only [Act.put, List.setIfInBounds_toArray, List.set_cons_zero, List.set_cons_succ]
      refine wpList_run rfl (.bool true) (by simp [go_sem, k1]) ?_
      simp only [Act.put, List.setIfInBounds_toArray, List.set_cons_zero, List.set_cons_succ]
      refine wpList_run rfl (.bool true) (by simp [go_sem]) ?_
      simp only [Act.put, List.setIfInBounds_toArray, List.set_cons_zero, List.set_cons_succ]
      refine wpList_runW rfl (.int .i64 (k : Int)) (by simp [go_sem]) ?_
      simp only [Act.put, List.setIfInBounds_toArray, List.set_cons_zero, List.set_cons_succ]
      refine wpList_runW rfl (.bool true) (by simp [go_sem, k2]) ?_
      simp only [Act.put, List.setIfInBounds_toArray, List.set_cons_zero, List.set_cons_succ]
      refine wpList_run rfl (.bool true) (by simp [go_sem]) ?_
      simp only [Act.put, List.setIfInBounds_toArray, List.set_cons_zero, List.set_cons_succ]
      go_upto_region 8 with (fail)
      refine wp_region_lit ?_
      refine wpList_run rfl (.slice vo k vc) (by simp [go_sem]) ?_
      simp only [Act.put, List.setIfInBounds_toArray, List.set_cons_zero, List.set_cons_succ]
      refine wpList_run rfl (.slice (some ad) 512 cap) (by simp [go_sem]) ?_
      simp only [Act.put, List.setIfInBounds_toArray, List.set_cons_zero, List.set_cons_succ]
      refine wpList_run rfl (.int .i64 (k : Int)) (by simp [go_sem]) ?_
      simp only [Act.put, List.setIfInBounds_toArray, List.set_cons_zero, List.set_cons_succ]
      refine wpList_run rfl (.int .i64 (4 * (k : Int))) (by simp [go_sem, e1]) ?_
      simp only [Act.put, List.setIfInBounds_toArray, List.set_cons_zero, List.set_cons_succ]
      refine wpList_run rfl (.int .i64 ((22 + 4 * k : Nat) : Int)) (by simp [go_sem, e2]) ?_
      simp only [Act.put, List.setIfInBounds_toArray, List.set_cons_zero, List.set_cons_succ]
      refine wpList_run rfl (.int .i64 (k : Int)) (by simp [go_sem]) ?_
      simp only [Act.put, List.setIfInBounds_toArray, List.set_cons_zero, List.set_cons_succ]
      refine wpList_run rfl (.int .i64 (4 * (k : Int))) (by simp [go_sem, e1]) ?_
      simp only [Act.put, List.setIfInBounds_toArray, List.set_cons_zero, List.set_cons_succ]
      refine wpList_run rfl (.int .i64 ((26 + 4 * k : Nat) : Int)) (by simp [go_sem, e3]) ?_
      simp only [Act.put, List.setIfInBounds_toArray, List.set_cons_zero, List.set_cons_succ]
      refine wpList_run rfl (.slice (some (ad.add (22 + 4 * k))) 4 (cap - (22 + 4 * k))) ((xcut 34 (.tmp 34) (.tmp 37) (.tmp 40) rfl ad 512 cap (22 + 4 * k) (26 + 4 * k) rfl rfl rfl Tryd.underlying34 Tryd.sizeOf5 (by omega) c4).trans (by rw [h4])) ?_
      simp only [Act.put, List.setIfInBounds_toArray, List.set_cons_zero, List.set_cons_succ]
      refine wpList_call rfl (by simp [go_sem]) ((value_any (.slice (some (ad.add (22 + 4 * k))) 4 (cap - (22 + 4 * k))) 4 (shF f (22 + 4 * k)) wr v4.out (by decide)).mono ?_)
      rintro e y4 ⟨rfl, y4h⟩
      refine ⟨_, rfl, ?_⟩
      simp only [Act.put, List.setIfInBounds_toArray, List.set_cons_zero, List.set_cons_succ]
      rw [y4h]
      clear y4h y4
      refine wpList_run rfl (.int .i64 (bP f k)) (by simp [go_sem, hcv]) ?_
      simp only [Act.put, List.setIfInBounds_toArray, List.set_cons_zero, List.set_cons_succ]
      have N1 := hideit (RowAt.new wr 1 (fun _ => .int .i64 (bP f k)) 3)
      have XN : Ext wr (wr.alloc (.cells (row 1 fun _ => .int .i64 (bP f k)).toArray 3)) := (Below.refl _ _).alloc (Nat.le_refl _) _
      refine wpList_to rfl (.slice (some ⟨wr.heap.size, 0, none⟩) 1 1) (wr.alloc (.cells (row 1 fun _ => .int .i64 (bP f k)).toArray 3)) (by simp [go_sem, row]) ?_
      simp only [Act.put, List.setIfInBounds_toArray, List.set_cons_zero, List.set_cons_succ]
      replace hG := hideit (hG.out.ext XN)
      clear XN
      generalize wr.alloc (.cells (row 1 fun _ => .int .i64 (bP f k)).toArray 3) = x9 at N1 hG ⊢
      obtain ⟨g9, hg9⟩ : ∃ g, g = wr.heap.size := ⟨_, rfl⟩
      rw [← hg9] at N1 ⊢
      clear hg9
      refine wpList_gi rfl (.tmp 33) (.tmp 44) rfl rfl hG.out g9 (bP f k) rfl N1.out rfl (by omega) ?_
      intro v5 w5 hG5
      simp only [Act.put, List.setIfInBounds_toArray, List.set_cons_zero, List.set_cons_succ]
      replace hG5 := hideit hG5
      clear hG N1 hE hu v4 hcv e1 e2 e3 c4
      refine wpList_run rfl (v5) (by simp [go_sem]) ?_
      simp only [Act.put, List.setIfInBounds_toArray, List.set_cons_zero, List.set_cons_succ]
      go_upto_region 7 with (fail)
      refine wp_region_lit ?_
      refine wpList_run rfl (.int .i64 (k : Int)) (by simp [go_sem]) ?_
      simp only [Act.put, List.setIfInBounds_toArray, List.set_cons_zero, List.set_cons_succ]
      refine wpList_run rfl (.int .i64 ((k + 1 : Nat) : Int)) (by simp [go_sem, ek]) ?_
      simp only [Act.put, List.setIfInBounds_toArray, List.set_cons_zero, List.set_cons_succ]
      refine wpList_run rfl (.int .i64 ((k + 1 : Nat) : Int)) (by simp [go_sem]) ?_
      simp only [Act.put, List.setIfInBounds_toArray, List.set_cons_zero, List.set_cons_succ]
      go_wp2
      refine ⟨⟨k + 1, by omega, by omega, rfl, hG5.out⟩, by simp [intOf]; omega⟩
    · have hmin : Hid (k = c ∨ (k = 64 ∧ 64 < c)) := hideit (by omega)
      replace hkc := hideit hkc
      replace hk64 := hideit hk64
      have hpl := isPl_iff f
      rw [hx.out, ht.out, hc.out] at hpl
      replace hpl := hideit hpl
      by_cases x0 : x.toNat = 0
      · have hno : Hid (¬ isPl 512 f) := fun h => (hpl.out.1 h).1 (u0.1 x0)
        have hr : Hid True := trivial
        by_cases kc : (k : Int) < (c : Int)
        · have k64 : ¬ (k : Int) < 64 := by have := hmin.out; omega
          go_upto_region 6 with (fail)
          refine wp_region_lit ?_
          refine wpList_run rfl (.int .i64 (k : Int)) (by simp [go_sem]) ?_
          simp only [Act.put, List.setIfInBounds_toArray, List.set_cons_zero, List.set_cons_succ]
          refine wpList_run rfl (.int .i64 (c : Int)) (by simp [go_sem]) ?_
          simp only [Act.put, List.setIfInBounds_toArray, List.set_cons_zero, List.set_cons_succ]
          refine wpList_run rfl (.bool true) (by simp [go_sem, kc]) ?_
          simp only [Act.put, List.setIfInBounds_toArray, List.set_cons_zero, List.set_cons_succ]
          refine wpList_run rfl (.bool true) (by simp [go_sem]) ?_
          simp only [Act.put, List.setIfInBounds_toArray, List.set_cons_zero, List.set_cons_succ]
          refine wpList_runW rfl (.int .i64 (k : Int)) (by simp [go_sem]) ?_
          simp only [Act.put, List.setIfInBounds_toArray, List.set_cons_zero, List.set_cons_succ]
          refine wpList_runW rfl (.bool false) (by simp [go_sem, k64]) ?_
          simp only [Act.put, List.setIfInBounds_toArray, List.set_cons_zero, List.set_cons_succ]
          refine wpList_run rfl (.bool false) (by simp [go_sem]) ?_
          simp only [Act.put, List.setIfInBounds_toArray, List.set_cons_zero, List.set_cons_succ]
          go_upto_region 9 with (fail)
          replace hu := hideit (hu.out.ext (Ext.draw (Ext.refl wr)))
          replace hG := hideit (hG.out.ext (Ext.draw (Ext.refl wr)))
          replace hE := hideit (Ext.draw hE.out)
          refine wp_region_lad (fun X => Ext wr.drew X) [(false, 0), (false, 1), (false, 2), (false, 3), (true, 4), (false, 5), (false, 6), (false, 7), (false, 8), (false, 9), (false, 10), (false, 11), (false, 12), (false, 13), (false, 14), (false, 15), (false, 16), (false, 17), (false, 18), (false, 19), (false, 20), (false, 21), (false, 22), (false, 23), (false, 24), (false, 25), (false, 26), (false, 27), (false, 28), (false, 31), (false, 32), (true, 29), (false, 30), (false, 33), (false, 34)] (by kernel_rfl) (by kernel_rfl) (by decide +kernel) (by decide +kernel) (by decide +kernel) (by decide +kernel) (Ext.refl _) ?_
          refine wpX_f _ (.int .u64 (x.toNat : Int)) rfl rfl (fun X _ => by simp [go_sem]) ?_
          simp only [List.getElem_toArray, List.getElem_cons_zero, Act.put, List.setIfInBounds_toArray, List.set_cons_zero, List.set_cons_succ]
          refine wpX_f _ (.bool true) rfl rfl (fun X _ => by simp [go_sem, x0]) ?_
          simp only [List.getElem_toArray, List.getElem_cons_zero, List.getElem_cons_succ, Act.put, List.setIfInBounds_toArray, List.set_cons_zero, List.set_cons_succ]
          refine wpX_f _ (.bool true) rfl rfl (fun X _ => by simp [go_sem]) ?_
          simp only [List.getElem_toArray, List.getElem_cons_zero, List.getElem_cons_succ, Act.put, List.setIfInBounds_toArray, List.set_cons_zero, List.set_cons_succ]
          refine wpX_fskip _ rfl rfl ?_
          simp only [List.getElem_toArray, List.getElem_cons_zero, List.getElem_cons_succ, Act.put, List.setIfInBounds_toArray, List.set_cons_zero, List.set_cons_succ]
          refine ⟨_, rfl, .inr ⟨rfl, fun X => Ext wr.drew X, fun X hX => hX, Ext.refl _, ?_⟩⟩
          simp only [List.getElem_toArray, List.getElem_cons_zero, List.getElem_cons_succ, Act.put, List.setIfInBounds_toArray, List.set_cons_zero, List.set_cons_succ]
          refine wpX_fskip _ rfl rfl ?_
          simp only [List.getElem_toArray, List.getElem_cons_zero, List.getElem_cons_succ, Act.put, List.setIfInBounds_toArray, List.set_cons_zero, List.set_cons_succ]
          refine wpX_f _ (.bool true) rfl rfl (fun X _ => by simp [go_sem]) ?_
          simp only [List.getElem_toArray, List.getElem_cons_zero, List.getElem_cons_succ, Act.put, List.setIfInBounds_toArray, List.set_cons_zero, List.set_cons_succ]
          refine wpX_f _ (.bool true) rfl rfl (fun X _ => by simp [go_sem]) ?_
          simp only [List.getElem_toArray, List.getElem_cons_zero, List.getElem_cons_succ, Act.put, List.setIfInBounds_toArray, List.set_cons_zero, List.set_cons_succ]
          refine wpX_fskip _ rfl rfl ?_
          simp only [List.getElem_toArray, List.getElem_cons_zero, List.getElem_cons_succ, Act.put, List.setIfInBounds_toArray, List.set_cons_zero, List.set_cons_succ]
          refine wpX_fskip _ rfl rfl ?_
          simp only [List.getElem_toArray, List.getElem_cons_zero, List.getElem_cons_succ, Act.put, List.setIfInBounds_toArray, List.set_cons_zero, List.set_cons_succ]
          refine wpX_fskip _ rfl rfl ?_
          simp only [List.getElem_toArray, List.getElem_cons_zero, List.getElem_cons_succ, Act.put, List.setIfInBounds_toArray, List.set_cons_zero, List.set_cons_succ]
          refine wpX_fskip _ rfl rfl ?_
          simp only [List.getElem_toArray, List.getElem_cons_zero, List.getElem_cons_succ, Act.put, List.setIfInBounds_toArray, List.set_cons_zero, List.set_cons_succ]
          refine wpX_f _ (.bool true) rfl rfl (fun X _ => by simp [go_sem]) ?_
          simp only [List.getElem_toArray, List.getElem_cons_zero, List.getElem_cons_succ, Act.put, List.setIfInBounds_toArray, List.set_cons_zero, List.set_cons_succ]
          refine wpX_f _ (.bool true) rfl rfl (fun X _ => by simp [go_sem]) ?_
          simp only [List.getElem_toArray, List.getElem_cons_zero, List.getElem_cons_succ, Act.put, List.setIfInBounds_toArray, List.set_cons_zero, List.set_cons_succ]
          refine wpX_fskip _ rfl rfl ?_
          simp only [List.getElem_toArray, List.getElem_cons_zero, List.getElem_cons_succ, Act.put, List.setIfInBounds_toArray, List.set_cons_zero, List.set_cons_succ]
          refine wpX_fskip _ rfl rfl ?_
          simp only [List.getElem_toArray, List.getElem_cons_zero, List.getElem_cons_succ, Act.put, List.setIfInBounds_toArray, List.set_cons_zero, List.set_cons_succ]
          refine wpX_fskip _ rfl rfl ?_
          simp only [List.getElem_toArray, List.getElem_cons_zero, List.getElem_cons_succ, Act.put, List.setIfInBounds_toArray, List.set_cons_zero, List.set_cons_succ]
          refine wpX_fskip _ rfl rfl ?_
          simp only [List.getElem_toArray, List.getElem_cons_zero, List.getElem_cons_succ, Act.put, List.setIfInBounds_toArray, List.set_cons_zero, List.set_cons_succ]
          refine wpX_fskip _ rfl rfl ?_
          simp only [List.getElem_toArray, List.getElem_cons_zero, List.getElem_cons_succ, Act.put, List.setIfInBounds_toArray, List.set_cons_zero, List.set_cons_succ]
          refine wpX_fskip _ rfl rfl ?_
          simp only [List.getElem_toArray, List.getElem_cons_zero, List.getElem_cons_succ, Act.put, List.setIfInBounds_toArray, List.set_cons_zero, List.set_cons_succ]
          refine wpX_fskip _ rfl rfl ?_
          simp only [List.getElem_toArray, List.getElem_cons_zero, List.getElem_cons_succ, Act.put, List.setIfInBounds_toArray, List.set_cons_zero, List.set_cons_succ]
          refine wpX_fskip _ rfl rfl ?_
          simp only [List.getElem_toArray, List.getElem_cons_zero, List.getElem_cons_succ, Act.put, List.setIfInBounds_toArray, List.set_cons_zero, List.set_cons_succ]
          refine wpX_fskip _ rfl rfl ?_
          simp only [List.getElem_toArray, List.getElem_cons_zero, List.getElem_cons_succ, Act.put, List.setIfInBounds_toArray, List.set_cons_zero, List.set_cons_succ]
          refine wpX_fskip _ rfl rfl ?_
          simp only [List.getElem_toArray, List.getElem_cons_zero, List.getElem_cons_succ, Act.put, List.setIfInBounds_toArray, List.set_cons_zero, List.set_cons_succ]
          refine wpX_f _ (.bool true) rfl rfl (fun X _ => by simp [go_sem]) ?_
          simp only [List.getElem_toArray, List.getElem_cons_zero, List.getElem_cons_succ, Act.put, List.setIfInBounds_toArray, List.set_cons_zero, List.set_cons_succ]
          refine wpX_f _ (.bool true) rfl rfl (fun X _ => by simp [go_sem]) ?_
          simp only [List.getElem_toArray, List.getElem_cons_zero, List.getElem_cons_succ, Act.put, List.setIfInBounds_toArray, List.set_cons_zero, List.set_cons_succ]
          refine wpX_fskip _ rfl rfl ?_
          simp only [List.getElem_toArray, List.getElem_cons_zero, List.getElem_cons_succ, Act.put, List.setIfInBounds_toArray, List.set_cons_zero, List.set_cons_succ]
          refine wpX_fskip _ rfl rfl ?_
          simp only [List.getElem_toArray, List.getElem_cons_zero, List.getElem_cons_succ, Act.put, List.setIfInBounds_toArray, List.set_cons_zero, List.set_cons_succ]
          refine wpX_fskip _ rfl rfl ?_
          simp only [List.getElem_toArray, List.getElem_cons_zero, List.getElem_cons_succ, Act.put, List.setIfInBounds_toArray, List.set_cons_zero, List.set_cons_succ]
          refine wpX_fskip _ rfl rfl ?_
          simp only [List.getElem_toArray, List.getElem_cons_zero, List.getElem_cons_succ, Act.put, List.setIfInBounds_toArray, List.set_cons_zero, List.set_cons_succ]
          refine wpX_fskip _ rfl rfl ?_
          simp only [List.getElem_toArray, List.getElem_cons_zero, List.getElem_cons_succ, Act.put, List.setIfInBounds_toArray, List.set_cons_zero, List.set_cons_succ]
          refine ⟨_, rfl, .inr ⟨rfl, fun X => Ext wr.drew X, fun X hX => hX, Ext.refl _, ?_⟩⟩
          simp only [List.getElem_toArray, List.getElem_cons_zero, List.getElem_cons_succ, Act.put, List.setIfInBounds_toArray, List.set_cons_zero, List.set_cons_succ]
          refine wpX_fskip _ rfl rfl ?_
          simp only [List.getElem_toArray, List.getElem_cons_zero, List.getElem_cons_succ, Act.put, List.setIfInBounds_toArray, List.set_cons_zero, List.set_cons_succ]
          refine wpX_fskip _ rfl rfl ?_
          simp only [List.getElem_toArray, List.getElem_cons_zero, List.getElem_cons_succ, Act.put, List.setIfInBounds_toArray, List.set_cons_zero, List.set_cons_succ]
          refine wpX_f _ (.bool true) rfl rfl (fun X _ => by simp [go_sem]) ?_
          simp only [List.getElem_toArray, List.getElem_cons_zero, List.getElem_cons_succ, Act.put, List.setIfInBounds_toArray, List.set_cons_zero, List.set_cons_succ]
          refine wpX_nil ?_
          go_wp2
          refine bodyPost_ret (res4 rfl _ _ _) rfl ?_
          exact ⟨hE.out, .inr ⟨hno.out, rfl⟩⟩
        · have k64 : True := trivial
          go_upto_region 6 with (fail)
          refine wp_region_lit ?_
          refine wpList_run rfl (.int .i64 (k : Int)) (by simp [go_sem]) ?_
          simp only [Act.put, List.setIfInBounds_toArray, List.set_cons_zero, List.set_cons_succ]
          refine wpList_run rfl (.int .i64 (c : Int)) (by simp [go_sem]) ?_
          simp only [Act.put, List.setIfInBounds_toArray, List.set_cons_zero, List.set_cons_succ]
          refine wpList_run rfl (.bool false) (by simp [go_sem, kc]) ?_
          simp only [Act.put, List.setIfInBounds_toArray, List.set_cons_zero, List.set_cons_succ]
          refine wpList_run rfl (.bool false) (by simp [go_sem]) ?_
          simp only [Act.put, List.setIfInBounds_toArray, List.set_cons_zero, List.set_cons_succ]
          with_reducible refine xnot (by with_unfolding_all rfl) ?_
          simp only [Act.put, List.setIfInBounds_toArray, List.set_cons_zero, List.set_cons_succ]
          with_reducible refine xnot (by with_unfolding_all rfl) ?_
          simp only [Act.put, List.setIfInBounds_toArray, List.set_cons_zero, List.set_cons_succ]
          refine wpList_run rfl (.bool false) (by simp [go_sem]) ?_
          simp only [Act.put, List.setIfInBounds_toArray, List.set_cons_zero, List.set_cons_succ]
          go_upto_region 9 with (fail)
          replace hu := hideit (hu.out.ext (Ext.draw (Ext.refl wr)))
          replace hG := hideit (hG.out.ext (Ext.draw (Ext.refl wr)))
          replace hE := hideit (Ext.draw hE.out)
          refine wp_region_lad (fun X => Ext wr.drew X) [(false, 0), (false, 1), (false, 2), (false, 3), (true, 4), (false, 5), (false, 6), (false, 7), (false, 8), (false, 9), (false, 10), (false, 11), (false, 12), (false, 13), (false, 14), (false, 15), (false, 16), (false, 17), (false, 18), (false, 19), (false, 20), (false, 21), (false, 22), (false, 23), (false, 24), (false, 25), (false, 26), (false, 27), (false, 28), (false, 31), (false, 32), (true, 29), (false, 30), (false, 33), (false, 34)] (by kernel_rfl) (by kernel_rfl) (by decide +kernel) (by decide +kernel) (by decide +kernel) (by decide +kernel) (Ext.refl _) ?_
          refine wpX_f _ (.int .u64 (x.toNat : Int)) rfl rfl (fun X _ => by simp [go_sem]) ?_
          simp only [List.getElem_toArray, List.getElem_cons_zero, Act.put, List.setIfInBounds_toArray, List.set_cons_zero, List.set_cons_succ]
          refine wpX_f _ (.bool true) rfl rfl (fun X _ => by simp [go_sem, x0]) ?_
          simp only [List.getElem_toArray, List.getElem_cons_zero, List.getElem_cons_succ, Act.put, List.setIfInBounds_toArray, List.set_cons_zero, List.set_cons_succ]
          refine wpX_f _ (.bool true) rfl rfl (fun X _ => by simp [go_sem]) ?_
          simp only [List.getElem_toArray, List.getElem_cons_zero, List.getElem_cons_succ, Act.put, List.setIfInBounds_toArray, List.set_cons_zero, List.set_cons_succ]
          refine wpX_fskip _ rfl rfl ?_
          simp only [List.getElem_toArray, List.getElem_cons_zero, List.getElem_cons_succ, Act.put, List.setIfInBounds_toArray, List.set_cons_zero, List.set_cons_succ]
          refine ⟨_, rfl, .inr ⟨rfl, fun X => Ext wr.drew X, fun X hX => hX, Ext.refl _, ?_⟩⟩
          simp only [List.getElem_toArray, List.getElem_cons_zero, List.getElem_cons_succ, Act.put, List.setIfInBounds_toArray, List.set_cons_zero, List.set_cons_succ]
          refine wpX_fskip _ rfl rfl ?_
          simp only [List.getElem_toArray, List.getElem_cons_zero, List.getElem_cons_succ, Act.put, List.setIfInBounds_toArray, List.set_cons_zero, List.set_cons_succ]
          refine wpX_f _ (.bool true) rfl rfl (fun X _ => by simp [go_sem]) ?_
          simp only [List.getElem_toArray, List.getElem_cons_zero, List.getElem_cons_succ, Act.put, List.setIfInBounds_toArray, List.set_cons_zero, List.set_cons_succ]
          refine wpX_f _ (.bool true) rfl rfl (fun X _ => by simp [go_sem]) ?_
          simp only [List.getElem_toArray, List.getElem_cons_zero, List.getElem_cons_succ, Act.put, List.setIfInBounds_toArray, List.set_cons_zero, List.set_cons_succ]
          refine wpX_fskip _ rfl rfl ?_
          simp only [List.getElem_toArray, List.getElem_cons_zero, List.getElem_cons_succ, Act.put, List.setIfInBounds_toArray, List.set_cons_zero, List.set_cons_succ]
          refine wpX_fskip _ rfl rfl ?_
          simp only [List.getElem_toArray, List.getElem_cons_zero, List.getElem_cons_succ, Act.put, List.setIfInBounds_toArray, List.set_cons_zero, List.set_cons_succ]
          refine wpX_fskip _ rfl rfl ?_
          simp only [List.getElem_toArray, List.getElem_cons_zero, List.getElem_cons_succ, Act.put, List.setIfInBounds_toArray, List.set_cons_zero, List.set_cons_succ]
          refine wpX_fskip _ rfl rfl ?_
          simp only [List.getElem_toArray, List.getElem_cons_zero, List.getElem_cons_succ, Act.put, List.setIfInBounds_toArray, List.set_cons_zero, List.set_cons_succ]
          refine wpX_f _ (.bool true) rfl rfl (fun X _ => by simp [go_sem]) ?_
          simp only [List.getElem_toArray, List.getElem_cons_zero, List.getElem_cons_succ, Act.put, List.setIfInBounds_toArray, List.set_cons_zero, List.set_cons_succ]
          refine wpX_f _ (.bool true) rfl rfl (fun X _ => by simp [go_sem]) ?_
          simp only [List.getElem_toArray, List.getElem_cons_zero, List.getElem_cons_succ, Act.put, List.setIfInBounds_toArray, List.set_cons_zero, List.set_cons_succ]
          refine wpX_fskip _ rfl rfl ?_
          simp only [List.getElem_toArray, List.getElem_cons_zero, List.getElem_cons_succ, Act.put, List.setIfInBounds_toArray, List.set_cons_zero, List.set_cons_succ]
          refine wpX_fskip _ rfl rfl ?_
          simp only [List.getElem_toArray, List.getElem_cons_zero, List.getElem_cons_succ, Act.put, List.setIfInBounds_toArray, List.set_cons_zero, List.set_cons_succ]
          refine wpX_fskip _ rfl rfl ?_
          simp only [List.getElem_toArray, List.getElem_cons_zero, List.getElem_cons_succ, Act.put, List.setIfInBounds_toArray, List.set_cons_zero, List.set_cons_succ]
          refine wpX_fskip _ rfl rfl ?_
          simp only [List.getElem_toArray, List.getElem_cons_zero, List.getElem_cons_succ, Act.put, List.setIfInBounds_toArray, List.set_cons_zero, List.set_cons_succ]
          refine wpX_fskip _ rfl rfl ?_
          simp only [List.getElem_toArray, List.getElem_cons_zero, List.getElem_cons_succ, Act.put, List.setIfInBounds_toArray, List.set_cons_zero, List.set_cons_succ]
          refine wpX_fskip _ rfl rfl ?_
          simp only [List.getElem_toArray, List.getElem_cons_zero, List.getElem_cons_succ, Act.put, List.setIfInBounds_toArray, List.set_cons_zero, List.set_cons_succ]
          refine wpX_fskip _ rfl rfl ?_
          simp only [List.getElem_toArray, List.getElem_cons_zero, List.getElem_cons_succ, Act.put, List.setIfInBounds_toArray, List.set_cons_zero, List.set_cons_succ]
          refine wpX_fskip _ rfl rfl ?_
          simp only [List.getElem_toArray, List.getElem_cons_zero, List.getElem_cons_succ, Act.put, List.setIfInBounds_toArray, List.set_cons_zero, List.set_cons_succ]
          refine wpX_fskip _ rfl rfl ?_
          simp only [List.getElem_toArray, List.getElem_cons_zero, List.getElem_cons_succ, Act.put, List.setIfInBounds_toArray, List.set_cons_zero, List.set_cons_succ]
          refine wpX_fskip _ rfl rfl ?_
          simp only [List.getElem_toArray, List.getElem_cons_zero, List.getElem_cons_succ, Act.put, List.setIfInBounds_toArray, List.set_cons_zero, List.set_cons_succ]
          refine wpX_f _ (.bool true) rfl rfl (fun X _ => by simp [go_sem]) ?_
          simp only [List.getElem_toArray, List.getElem_cons_zero, List.getElem_cons_succ, Act.put, List.setIfInBounds_toArray, List.set_cons_zero, List.set_cons_succ]
          refine wpX_f _ (.bool true) rfl rfl (fun X _ => by simp [go_sem]) ?_
          simp only [List.getElem_toArray, List.getElem_cons_zero, List.getElem_cons_succ, Act.put, List.setIfInBounds_toArray, List.set_cons_zero, List.set_cons_succ]
          refine wpX_fskip _ rfl rfl ?_
          simp only [List.getElem_toArray, List.getElem_cons_zero, List.getElem_cons_succ, Act.put, List.setIfInBounds_toArray, List.set_cons_zero, List.set_cons_succ]
          refine wpX_fskip _ rfl rfl ?_
          simp only [List.getElem_toArray, List.getElem_cons_zero, List.getElem_cons_succ, Act.put, List.setIfInBounds_toArray, List.set_cons_zero, List.set_cons_succ]
          refine wpX_fskip _ rfl rfl ?_
          simp only [List.getElem_toArray, List.getElem_cons_zero, List.getElem_cons_succ, Act.put, List.setIfInBounds_toArray, List.set_cons_zero, List.set_cons_succ]
          refine wpX_fskip _ rfl rfl ?_
          simp only [List.getElem_toArray, List.getElem_cons_zero, List.getElem_cons_succ, Act.put, List.setIfInBounds_toArray, List.set_cons_zero, List.set_cons_succ]
          refine wpX_fskip _ rfl rfl ?_
          simp only [List.getElem_toArray, List.getElem_cons_zero, List.getElem_cons_succ, Act.put, List.setIfInBounds_toArray, List.set_cons_zero, List.set_cons_succ]
          refine ⟨_, rfl, .inr ⟨rfl, fun X => Ext wr.drew X, fun X hX => hX, Ext.refl _, ?_⟩⟩
          simp only [List.getElem_toArray, List.getElem_cons_zero, List.getElem_cons_succ, Act.put, List.setIfInBounds_toArray, List.set_cons_zero, List.set_cons_succ]
          refine wpX_fskip _ rfl rfl ?_
          simp only [List.getElem_toArray, List.getElem_cons_zero, List.getElem_cons_succ, Act.put, List.setIfInBounds_toArray, List.set_cons_zero, List.set_cons_succ]
          refine wpX_fskip _ rfl rfl ?_
          simp only [List.getElem_toArray, List.getElem_cons_zero, List.getElem_cons_succ, Act.put, List.setIfInBounds_toArray, List.set_cons_zero, List.set_cons_succ]
          refine wpX_f _ (.bool true) rfl rfl (fun X _ => by simp [go_sem]) ?_
          simp only [List.getElem_toArray, List.getElem_cons_zero, List.getElem_cons_succ, Act.put, List.setIfInBounds_toArray, List.set_cons_zero, List.set_cons_succ]
          refine wpX_nil ?_
          go_wp2
          refine bodyPost_ret (res4 rfl _ _ _) rfl ?_
          exact ⟨hE.out, .inr ⟨hno.out, rfl⟩⟩
      · by_cases hr : rbs k (bP f) ∧ 1 ≤ k
        · replace hr := hideit hr
          by_cases hkc2 : k = c
          · subst hkc2
            have kk : ¬ (k : Int) < (k : Int) := by omega
            by_cases h64 : k < 64
            · have k64 : (k : Int) < 64 := by omega
              have hs := shr_nat t k
              rw [Nat.min_eq_left (by omega)] at hs
              obtain ⟨s, hse⟩ : ∃ s, s = t >>> k := ⟨_, rfl⟩
              rw [← hse] at hs
              by_cases ht0 : t >>> k = 0#64
              · have s0 : s.toNat = 0 := u0.2 (by rw [hse]; exact ht0)
                replace hse := hideit hse
                by_cases hq : (bS 512 (planF x t k (bP f))).toList = (bS 512 f).toList
                · have hyes : Hid (isPl 512 f) := hpl.out.2 ⟨fun h => x0 (u0.2 h), hr.out, hk64.out, ht0, hq⟩
                  replace hq := hideit hq
                  replace ht0 := hideit ht0
                  go_upto_region 6 with (fail)
                  refine wp_region_lit ?_
                  refine wpList_run rfl (.int .i64 (k : Int)) (by simp [go_sem]) ?_
                  simp only [Act.put, List.setIfInBounds_toArray, List.set_cons_zero, List.set_cons_succ]
                  refine wpList_run rfl (.int .i64 (k : Int)) (by simp [go_sem]) ?_
                  simp only [Act.put, List.setIfInBounds_toArray, List.set_cons_zero, List.set_cons_succ]
                  refine wpList_run rfl (.bool false) (by simp [go_sem, kk]) ?_
                  simp only [Act.put, List.setIfInBounds_toArray, List.set_cons_zero, List.set_cons_succ]
                  refine wpList_run rfl (.bool false) (by simp [go_sem]) ?_
                  simp only [Act.put, List.setIfInBounds_toArray, List.set_cons_zero, List.set_cons_succ]
                  with_reducible refine xnot (by with_unfolding_all rfl) ?_
                  simp only [Act.put, List.setIfInBounds_toArray, List.set_cons_zero, List.set_cons_succ]
                  with_reducible refine xnot (by with_unfolding_all rfl) ?_
                  simp only [Act.put, List.setIfInBounds_toArray, List.set_cons_zero, List.set_cons_succ]
                  refine wpList_run rfl (.bool false) (by simp [go_sem]) ?_
                  simp only [Act.put, List.setIfInBounds_toArray, List.set_cons_zero, List.set_cons_succ]
                  go_upto_region 9 with (fail)
                  replace hu := hideit (hu.out.ext (Ext.draw (Ext.refl wr)))
                  replace hG := hideit (hG.out.ext (Ext.draw (Ext.refl wr)))
                  replace hE := hideit (Ext.draw hE.out)
                  refine wp_region_lad (fun X => Ext wr.drew X) [(false, 0), (false, 1), (false, 2), (false, 3), (true, 4), (false, 5), (false, 6), (false, 7), (false, 8), (false, 9), (false, 10), (false, 11), (false, 12), (false, 13), (false, 14), (false, 15), (false, 16), (false, 17), (false, 18), (false, 19), (false, 20), (false, 21), (false, 22), (false, 23), (false, 24), (false, 25), (false, 26), (false, 27), (false, 28), (false, 31), (false, 32), (true, 29), (false, 30), (false, 33), (false, 34)] (by kernel_rfl) (by kernel_rfl) (by decide +kernel) (by decide +kernel) (by decide +kernel) (by decide +kernel) (Ext.refl _) ?_
                  refine wpX_f _ (.int .u64 (x.toNat : Int)) rfl rfl (fun X _ => by simp [go_sem]) ?_
                  simp only [List.getElem_toArray, List.getElem_cons_zero, Act.put, List.setIfInBounds_toArray, List.set_cons_zero, List.set_cons_succ]
                  refine wpX_f _ (.bool false) rfl rfl (fun X _ => by simp [go_sem, x0]) ?_
                  simp only [List.getElem_toArray, List.getElem_cons_zero, List.getElem_cons_succ, Act.put, List.setIfInBounds_toArray, List.set_cons_zero, List.set_cons_succ]
                  refine wpX_f _ (.bool false) rfl rfl (fun X _ => by simp [go_sem]) ?_
                  simp only [List.getElem_toArray, List.getElem_cons_zero, List.getElem_cons_succ, Act.put, List.setIfInBounds_toArray, List.set_cons_zero, List.set_cons_succ]
                  refine wpX_f _ (.slice vo k vc) rfl rfl (fun X _ => by simp [go_sem]) ?_
                  simp only [List.getElem_toArray, List.getElem_cons_zero, List.getElem_cons_succ, Act.put, List.setIfInBounds_toArray, List.set_cons_zero, List.set_cons_succ]
                  refine wpX_call _ rfl rfl (by simp [go_sem]) ((rright_any (.slice vo k vc) k (bP f) wr.drew (hG.out.il fun j _ => bok.out j) hk64.out true (iff_of_true rfl hr.out)).mono ?_)
                  rintro e y1 ⟨rfl, hX2⟩
                  refine ⟨_, rfl, fun X => Ext y1 X, fun X hX => Ext.trans hX2 hX, Ext.refl _, ?_⟩
                  simp only [List.getElem_toArray, List.getElem_cons_zero, List.getElem_cons_succ, Act.put, List.setIfInBounds_toArray, List.set_cons_zero, List.set_cons_succ]
                  replace hu := hideit (hu.out.ext hX2)
                  replace hG := hideit (hG.out.ext hX2)
                  replace hE := hideit (Ext.trans hE.out hX2)

                  clear hX2
                  refine wpX_f _ (.bool false) rfl rfl (fun X _ => by simp [go_sem]) ?_
                  simp only [List.getElem_toArray, List.getElem_cons_zero, List.getElem_cons_succ, Act.put, List.setIfInBounds_toArray, List.set_cons_zero, List.set_cons_succ]
                  refine wpX_f _ (.bool false) rfl rfl (fun X _ => by simp [go_sem]) ?_
                  simp only [List.getElem_toArray, List.getElem_cons_zero, List.getElem_cons_succ, Act.put, List.setIfInBounds_toArray, List.set_cons_zero, List.set_cons_succ]
                  refine wpX_f _ (.bool false) rfl rfl (fun X _ => by simp [go_sem]) ?_
                  simp only [List.getElem_toArray, List.getElem_cons_zero, List.getElem_cons_succ, Act.put, List.setIfInBounds_toArray, List.set_cons_zero, List.set_cons_succ]
                  refine wpX_f _ (.slice vo k vc) rfl rfl (fun X _ => by simp [go_sem]) ?_
                  simp only [List.getElem_toArray, List.getElem_cons_zero, List.getElem_cons_succ, Act.put, List.setIfInBounds_toArray, List.set_cons_zero, List.set_cons_succ]
                  refine wpX_f _ (.int .i64 (k : Int)) rfl rfl (fun X _ => by simp [go_sem]) ?_
                  simp only [List.getElem_toArray, List.getElem_cons_zero, List.getElem_cons_succ, Act.put, List.setIfInBounds_toArray, List.set_cons_zero, List.set_cons_succ]
                  refine wpX_f _ (.int .i64 (k : Int)) rfl rfl (fun X _ => by simp [go_sem]) ?_
                  simp only [List.getElem_toArray, List.getElem_cons_zero, List.getElem_cons_succ, Act.put, List.setIfInBounds_toArray, List.set_cons_zero, List.set_cons_succ]
                  refine wpX_f _ (.bool false) rfl rfl (fun X _ => by simp [go_sem]) ?_
                  simp only [List.getElem_toArray, List.getElem_cons_zero, List.getElem_cons_succ, Act.put, List.setIfInBounds_toArray, List.set_cons_zero, List.set_cons_succ]
                  refine wpX_f _ (.bool false) rfl rfl (fun X _ => by simp [go_sem]) ?_
                  simp only [List.getElem_toArray, List.getElem_cons_zero, List.getElem_cons_succ, Act.put, List.setIfInBounds_toArray, List.set_cons_zero, List.set_cons_succ]
                  refine wpX_f _ (.bool false) rfl rfl (fun X _ => by simp [go_sem]) ?_
                  simp only [List.getElem_toArray, List.getElem_cons_zero, List.getElem_cons_succ, Act.put, List.setIfInBounds_toArray, List.set_cons_zero, List.set_cons_succ]
                  refine wpX_f _ (.slice vo k vc) rfl rfl (fun X _ => by simp [go_sem]) ?_
                  simp only [List.getElem_toArray, List.getElem_cons_zero, List.getElem_cons_succ, Act.put, List.setIfInBounds_toArray, List.set_cons_zero, List.set_cons_succ]
                  refine wpX_f _ (.int .i64 (k : Int)) rfl rfl (fun X _ => by simp [go_sem]) ?_
                  simp only [List.getElem_toArray, List.getElem_cons_zero, List.getElem_cons_succ, Act.put, List.setIfInBounds_toArray, List.set_cons_zero, List.set_cons_succ]
                  refine wpX_f _ (.bool true) rfl rfl (fun X _ => by simp [go_sem, k64]) ?_
                  simp only [List.getElem_toArray, List.getElem_cons_zero, List.getElem_cons_succ, Act.put, List.setIfInBounds_toArray, List.set_cons_zero, List.set_cons_succ]
                  refine wpX_f _ (.bool true) rfl rfl (fun X _ => by simp [go_sem]) ?_
                  simp only [List.getElem_toArray, List.getElem_cons_zero, List.getElem_cons_succ, Act.put, List.setIfInBounds_toArray, List.set_cons_zero, List.set_cons_succ]
                  refine wpX_f _ (.int .u64 (t.toNat : Int)) rfl rfl (fun X _ => by simp [go_sem]) ?_
                  simp only [List.getElem_toArray, List.getElem_cons_zero, List.getElem_cons_succ, Act.put, List.setIfInBounds_toArray, List.set_cons_zero, List.set_cons_succ]
                  refine wpX_f _ (.slice vo k vc) rfl rfl (fun X _ => by simp [go_sem]) ?_
                  simp only [List.getElem_toArray, List.getElem_cons_zero, List.getElem_cons_succ, Act.put, List.setIfInBounds_toArray, List.set_cons_zero, List.set_cons_succ]
                  refine wpX_f _ (.int .i64 (k : Int)) rfl rfl (fun X _ => by simp [go_sem]) ?_
                  simp only [List.getElem_toArray, List.getElem_cons_zero, List.getElem_cons_succ, Act.put, List.setIfInBounds_toArray, List.set_cons_zero, List.set_cons_succ]
                  refine wpX_f _ (.int .u64 (s.toNat : Int)) rfl rfl (fun X _ => by simp [go_sem, hs]) ?_
                  simp only [List.getElem_toArray, List.getElem_cons_zero, List.getElem_cons_succ, Act.put, List.setIfInBounds_toArray, List.set_cons_zero, List.set_cons_succ]
                  refine wpX_f _ (.bool false) rfl rfl (fun X _ => by simp [go_sem, s0]) ?_
                  simp only [List.getElem_toArray, List.getElem_cons_zero, List.getElem_cons_succ, Act.put, List.setIfInBounds_toArray, List.set_cons_zero, List.set_cons_succ]
                  refine wpX_f _ (.bool false) rfl rfl (fun X _ => by simp [go_sem]) ?_
                  simp only [List.getElem_toArray, List.getElem_cons_zero, List.getElem_cons_succ, Act.put, List.setIfInBounds_toArray, List.set_cons_zero, List.set_cons_succ]
                  refine wpX_f _ (.bool false) rfl rfl (fun X _ => by simp [go_sem]) ?_
                  simp only [List.getElem_toArray, List.getElem_cons_zero, List.getElem_cons_succ, Act.put, List.setIfInBounds_toArray, List.set_cons_zero, List.set_cons_succ]
                  refine wpX_f _ (.bool false) rfl rfl (fun X _ => by simp [go_sem]) ?_
                  simp only [List.getElem_toArray, List.getElem_cons_zero, List.getElem_cons_succ, Act.put, List.setIfInBounds_toArray, List.set_cons_zero, List.set_cons_succ]
                  refine wpX_f _ (.int .u64 (x.toNat : Int)) rfl rfl (fun X _ => by simp [go_sem]) ?_
                  simp only [List.getElem_toArray, List.getElem_cons_zero, List.getElem_cons_succ, Act.put, List.setIfInBounds_toArray, List.set_cons_zero, List.set_cons_succ]
                  refine wpX_f _ (.slice vo k vc) rfl rfl (fun X _ => by simp [go_sem]) ?_
                  simp only [List.getElem_toArray, List.getElem_cons_zero, List.getElem_cons_succ, Act.put, List.setIfInBounds_toArray, List.set_cons_zero, List.set_cons_succ]
                  refine wpX_f _ (.int .u64 (t.toNat : Int)) rfl rfl (fun X _ => by simp [go_sem]) ?_
                  simp only [List.getElem_toArray, List.getElem_cons_zero, List.getElem_cons_succ, Act.put, List.setIfInBounds_toArray, List.set_cons_zero, List.set_cons_succ]
                  refine wpX_f _ (.slice (some ad) 512 cap) rfl rfl (fun X _ => by simp [go_sem]) ?_
                  simp only [List.getElem_toArray, List.getElem_cons_zero, List.getElem_cons_succ, Act.put, List.setIfInBounds_toArray, List.set_cons_zero, List.set_cons_succ]
                  refine wpX_f _ (.string (bS 512 (f))) rfl rfl (fun X hX => (by have cv3 := convS (.slice (some ad) 512 cap) 512 (f) X (hu.out.ext hX); simp [go_sem, cv3])) ?_
                  simp only [List.getElem_toArray, List.getElem_cons_zero, List.getElem_cons_succ, Act.put, List.setIfInBounds_toArray, List.set_cons_zero, List.set_cons_succ]
                  refine wpX_call _ rfl rfl (by simp [go_sem]) ((rplan_any x t (.slice vo k vc) k (bP f) y1 (hG.out.il fun j _ => bok.out j) hk64.out (fun i hi => (hr.out.1 i hi).1)).mono ?_)
                  rintro e y4 ⟨pv, rfl, hp, hX5⟩
                  refine ⟨_, rfl, fun X => Ext y4 X, fun X hX => Ext.trans hX5 hX, Ext.refl _, ?_⟩
                  simp only [List.getElem_toArray, List.getElem_cons_zero, List.getElem_cons_succ, Act.put, List.setIfInBounds_toArray, List.set_cons_zero, List.set_cons_succ]
                  replace hu := hideit (hu.out.ext hX5)
                  replace hG := hideit (hG.out.ext hX5)
                  replace hE := hideit (Ext.trans hE.out hX5)
                  obtain ⟨po, pc, rfl⟩ := hp.form
                  replace hp := hideit hp
                  clear hX5
                  refine wpX_f _ (.string (bS 512 (planF x t k (bP f)))) rfl rfl (fun X hX => (by have cv6 := convS (.slice po 512 pc) 512 (planF x t k (bP f)) X (hp.out.ext hX); simp [go_sem, cv6])) ?_
                  simp only [List.getElem_toArray, List.getElem_cons_zero, List.getElem_cons_succ, Act.put, List.setIfInBounds_toArray, List.set_cons_zero, List.set_cons_succ]
                  refine wpX_f _ (.bool false) rfl rfl (fun X _ => by simp [go_sem, hq.out]) ?_
                  simp only [List.getElem_toArray, List.getElem_cons_zero, List.getElem_cons_succ, Act.put, List.setIfInBounds_toArray, List.set_cons_zero, List.set_cons_succ]
                  refine wpX_f _ (.bool false) rfl rfl (fun X _ => by simp [go_sem]) ?_
                  simp only [List.getElem_toArray, List.getElem_cons_zero, List.getElem_cons_succ, Act.put, List.setIfInBounds_toArray, List.set_cons_zero, List.set_cons_succ]
                  refine wpX_nil ?_
                  go_upto_region 11 with (fail)
                  refine wp_region_lit ?_
                  refine wpList_run rfl (.int .u64 (x.toNat : Int)) (by simp [go_sem]) ?_
                  simp only [Act.put, List.setIfInBounds_toArray, List.set_cons_zero, List.set_cons_succ]
                  refine wpList_run rfl (.slice vo k vc) (by simp [go_sem]) ?_
                  simp only [Act.put, List.setIfInBounds_toArray, List.set_cons_zero, List.set_cons_succ]
                  refine wpList_run rfl (.int .u64 (t.toNat : Int)) (by simp [go_sem]) ?_
                  simp only [Act.put, List.setIfInBounds_toArray, List.set_cons_zero, List.set_cons_succ]
                  refine wpList_run rfl (.int .u64 (x.toNat : Int)) (by simp [go_sem]) ?_
                  simp only [Act.put, List.setIfInBounds_toArray, List.set_cons_zero, List.set_cons_succ]
                  refine wpList_run rfl (.slice vo k vc) (by simp [go_sem]) ?_
                  simp only [Act.put, List.setIfInBounds_toArray, List.set_cons_zero, List.set_cons_succ]
                  refine wpList_run rfl (.int .u64 (t.toNat : Int)) (by simp [go_sem]) ?_
                  simp only [Act.put, List.setIfInBounds_toArray, List.set_cons_zero, List.set_cons_succ]
                  refine wpList_run rfl (.int .i64 0) (by simp [go_sem]) ?_
                  simp only [Act.put, List.setIfInBounds_toArray, List.set_cons_zero, List.set_cons_succ]
                  go_wp2
                  refine bodyPost_ret (res4 rfl _ _ _) rfl ?_
                  exact ⟨hE.out, .inl ⟨hyes.out, _, by rw [hx.out, ht.out]; rfl, by rw [hc.out]; exact ⟨hG.out.1, hG.out.2⟩⟩⟩
                · have hno : Hid (¬ isPl 512 f) := fun h => hq (hpl.out.1 h).2.2.2.2
                  replace hq := hideit hq
                  replace ht0 := hideit ht0
                  go_upto_region 6 with (fail)
                  refine wp_region_lit ?_
                  refine wpList_run rfl (.int .i64 (k : Int)) (by simp [go_sem]) ?_
                  simp only [Act.put, List.setIfInBounds_toArray, List.set_cons_zero, List.set_cons_succ]
                  refine wpList_run rfl (.int .i64 (k : Int)) (by simp [go_sem]) ?_
                  simp only [Act.put, List.setIfInBounds_toArray, List.set_cons_zero, List.set_cons_succ]
                  refine wpList_run rfl (.bool false) (by simp [go_sem, kk]) ?_
                  simp only [Act.put, List.setIfInBounds_toArray, List.set_cons_zero, List.set_cons_succ]
                  refine wpList_run rfl (.bool false) (by simp [go_sem]) ?_
                  simp only [Act.put, List.setIfInBounds_toArray, List.set_cons_zero, List.set_cons_succ]
                  with_reducible refine xnot (by with_unfolding_all rfl) ?_
                  simp only [Act.put, List.setIfInBounds_toArray, List.set_cons_zero, List.set_cons_succ]
                  with_reducible refine xnot (by with_unfolding_all rfl) ?_
                  simp only [Act.put, List.setIfInBounds_toArray, List.set_cons_zero, List.set_cons_succ]
                  refine wpList_run rfl (.bool false) (by simp [go_sem]) ?_
                  simp only [Act.put, List.setIfInBounds_toArray, List.set_cons_zero, List.set_cons_succ]
                  go_upto_region 9 with (fail)
                  replace hu := hideit (hu.out.ext (Ext.draw (Ext.refl wr)))
                  replace hG := hideit (hG.out.ext (Ext.draw (Ext.refl wr)))
                  replace hE := hideit (Ext.draw hE.out)
                  refine wp_region_lad (fun X => Ext wr.drew X) [(false, 0), (false, 1), (false, 2), (false, 3), (true, 4), (false, 5), (false, 6), (false, 7), (false, 8), (false, 9), (false, 10), (false, 11), (false, 12), (false, 13), (false, 14), (false, 15), (false, 16), (false, 17), (false, 18), (false, 19), (false, 20), (false, 21), (false, 22), (false, 23), (false, 24), (false, 25), (false, 26), (false, 27), (false, 28), (false, 31), (false, 32), (true, 29), (false, 30), (false, 33), (false, 34)] (by kernel_rfl) (by kernel_rfl) (by decide +kernel) (by decide +kernel) (by decide +kernel) (by decide +kernel) (Ext.refl _) ?_
                  refine wpX_f _ (.int .u64 (x.toNat : Int)) rfl rfl (fun X _ => by simp [go_sem]) ?_
                  simp only [List.getElem_toArray, List.getElem_cons_zero, Act.put, List.setIfInBounds_toArray, List.set_cons_zero, List.set_cons_succ]
                  refine wpX_f _ (.bool false) rfl rfl (fun X _ => by simp [go_sem, x0]) ?_
                  simp only [List.getElem_toArray, List.getElem_cons_zero, List.getElem_cons_succ, Act.put, List.setIfInBounds_toArray, List.set_cons_zero, List.set_cons_succ]
                  refine wpX_f _ (.bool false) rfl rfl (fun X _ => by simp [go_sem]) ?_
                  simp only [List.getElem_toArray, List.getElem_cons_zero, List.getElem_cons_succ, Act.put, List.setIfInBounds_toArray, List.set_cons_zero, List.set_cons_succ]
                  refine wpX_f _ (.slice vo k vc) rfl rfl (fun X _ => by simp [go_sem]) ?_
                  simp only [List.getElem_toArray, List.getElem_cons_zero, List.getElem_cons_succ, Act.put, List.setIfInBounds_toArray, List.set_cons_zero, List.set_cons_succ]
                  refine wpX_call _ rfl rfl (by simp [go_sem]) ((rright_any (.slice vo k vc) k (bP f) wr.drew (hG.out.il fun j _ => bok.out j) hk64.out true (iff_of_true rfl hr.out)).mono ?_)
                  rintro e y1 ⟨rfl, hX2⟩
                  refine ⟨_, rfl, fun X => Ext y1 X, fun X hX => Ext.trans hX2 hX, Ext.refl _, ?_⟩
                  simp only [List.getElem_toArray, List.getElem_cons_zero, List.getElem_cons_succ, Act.put, List.setIfInBounds_toArray, List.set_cons_zero, List.set_cons_succ]
                  replace hu := hideit (hu.out.ext hX2)
                  replace hG := hideit (hG.out.ext hX2)
                  replace hE := hideit (Ext.trans hE.out hX2)

                  clear hX2
                  refine wpX_f _ (.bool false) rfl rfl (fun X _ => by simp [go_sem]) ?_
                  simp only [List.getElem_toArray, List.getElem_cons_zero, List.getElem_cons_succ, Act.put, List.setIfInBounds_toArray, List.set_cons_zero, List.set_cons_succ]
                  refine wpX_f _ (.bool false) rfl rfl (fun X _ => by simp [go_sem]) ?_
                  simp only [List.getElem_toArray, List.getElem_cons_zero, List.getElem_cons_succ, Act.put, List.setIfInBounds_toArray, List.set_cons_zero, List.set_cons_succ]
                  refine wpX_f _ (.bool false) rfl rfl (fun X _ => by simp [go_sem]) ?_
                  simp only [List.getElem_toArray, List.getElem_cons_zero, List.getElem_cons_succ, Act.put, List.setIfInBounds_toArray, List.set_cons_zero, List.set_cons_succ]
                  refine wpX_f _ (.slice vo k vc) rfl rfl (fun X _ => by simp [go_sem]) ?_
                  simp only [List.getElem_toArray, List.getElem_cons_zero, List.getElem_cons_succ, Act.put, List.setIfInBounds_toArray, List.set_cons_zero, List.set_cons_succ]
                  refine wpX_f _ (.int .i64 (k : Int)) rfl rfl (fun X _ => by simp [go_sem]) ?_
                  simp only [List.getElem_toArray, List.getElem_cons_zero, List.getElem_cons_succ, Act.put, List.setIfInBounds_toArray, List.set_cons_zero, List.set_cons_succ]
                  refine wpX_f _ (.int .i64 (k : Int)) rfl rfl (fun X _ => by simp [go_sem]) ?_
                  simp only [List.getElem_toArray, List.getElem_cons_zero, List.getElem_cons_succ, Act.put, List.setIfInBounds_toArray, List.set_cons_zero, List.set_cons_succ]
                  refine wpX_f _ (.bool false) rfl rfl (fun X _ => by simp [go_sem]) ?_
                  simp only [List.getElem_toArray, List.getElem_cons_zero, List.getElem_cons_succ, Act.put, List.setIfInBounds_toArray, List.set_cons_zero, List.set_cons_succ]
                  refine wpX_f _ (.bool false) rfl rfl (fun X _ => by simp [go_sem]) ?_
                  simp only [List.getElem_toArray, List.getElem_cons_zero, List.getElem_cons_succ, Act.put, List.setIfInBounds_toArray, List.set_cons_zero, List.set_cons_succ]
                  refine wpX_f _ (.bool false) rfl rfl (fun X _ => by simp [go_sem]) ?_
                  simp only [List.getElem_toArray, List.getElem_cons_zero, List.getElem_cons_succ, Act.put, List.setIfInBounds_toArray, List.set_cons_zero, List.set_cons_succ]
                  refine wpX_f _ (.slice vo k vc) rfl rfl (fun X _ => by simp [go_sem]) ?_
                  simp only [List.getElem_toArray, List.getElem_cons_zero, List.getElem_cons_succ, Act.put, List.setIfInBounds_toArray, List.set_cons_zero, List.set_cons_succ]
                  refine wpX_f _ (.int .i64 (k : Int)) rfl rfl (fun X _ => by simp [go_sem]) ?_
                  simp only [List.getElem_toArray, List.getElem_cons_zero, List.getElem_cons_succ, Act.put, List.setIfInBounds_toArray, List.set_cons_zero, List.set_cons_succ]
                  refine wpX_f _ (.bool true) rfl rfl (fun X _ => by simp [go_sem, k64]) ?_
                  simp only [List.getElem_toArray, List.getElem_cons_zero, List.getElem_cons_succ, Act.put, List.setIfInBounds_toArray, List.set_cons_zero, List.set_cons_succ]
                  refine wpX_f _ (.bool true) rfl rfl (fun X _ => by simp [go_sem]) ?_
                  simp only [List.getElem_toArray, List.getElem_cons_zero, List.getElem_cons_succ, Act.put, List.setIfInBounds_toArray, List.set_cons_zero, List.set_cons_succ]
                  refine wpX_f _ (.int .u64 (t.toNat : Int)) rfl rfl (fun X _ => by simp [go_sem]) ?_
                  simp only [List.getElem_toArray, List.getElem_cons_zero, List.getElem_cons_succ, Act.put, List.setIfInBounds_toArray, List.set_cons_zero, List.set_cons_succ]
                  refine wpX_f _ (.slice vo k vc) rfl rfl (fun X _ => by simp [go_sem]) ?_
                  simp only [List.getElem_toArray, List.getElem_cons_zero, List.getElem_cons_succ, Act.put, List.setIfInBounds_toArray, List.set_cons_zero, List.set_cons_succ]
                  refine wpX_f _ (.int .i64 (k : Int)) rfl rfl (fun X _ => by simp [go_sem]) ?_
                  simp only [List.getElem_toArray, List.getElem_cons_zero, List.getElem_cons_succ, Act.put, List.setIfInBounds_toArray, List.set_cons_zero, List.set_cons_succ]
                  refine wpX_f _ (.int .u64 (s.toNat : Int)) rfl rfl (fun X _ => by simp [go_sem, hs]) ?_
                  simp only [List.getElem_toArray, List.getElem_cons_zero, List.getElem_cons_succ, Act.put, List.setIfInBounds_toArray, List.set_cons_zero, List.set_cons_succ]
                  refine wpX_f _ (.bool false) rfl rfl (fun X _ => by simp [go_sem, s0]) ?_
                  simp only [List.getElem_toArray, List.getElem_cons_zero, List.getElem_cons_succ, Act.put, List.setIfInBounds_toArray, List.set_cons_zero, List.set_cons_succ]
                  refine wpX_f _ (.bool false) rfl rfl (fun X _ => by simp [go_sem]) ?_
                  simp only [List.getElem_toArray, List.getElem_cons_zero, List.getElem_cons_succ, Act.put, List.setIfInBounds_toArray, List.set_cons_zero, List.set_cons_succ]
                  refine wpX_f _ (.bool false) rfl rfl (fun X _ => by simp [go_sem]) ?_
                  simp only [List.getElem_toArray, List.getElem_cons_zero, List.getElem_cons_succ, Act.put, List.setIfInBounds_toArray, List.set_cons_zero, List.set_cons_succ]
                  refine wpX_f _ (.bool false) rfl rfl (fun X _ => by simp [go_sem]) ?_
                  simp only [List.getElem_toArray, List.getElem_cons_zero, List.getElem_cons_succ, Act.put, List.setIfInBounds_toArray, List.set_cons_zero, List.set_cons_succ]
                  refine wpX_f _ (.int .u64 (x.toNat : Int)) rfl rfl (fun X _ => by simp [go_sem]) ?_
                  simp only [List.getElem_toArray, List.getElem_cons_zero, List.getElem_cons_succ, Act.put, List.setIfInBounds_toArray, List.set_cons_zero, List.set_cons_succ]
                  refine wpX_f _ (.slice vo k vc) rfl rfl (fun X _ => by simp [go_sem]) ?_
                  simp only [List.getElem_toArray, List.getElem_cons_zero, List.getElem_cons_succ, Act.put, List.setIfInBounds_toArray, List.set_cons_zero, List.set_cons_succ]
                  refine wpX_f _ (.int .u64 (t.toNat : Int)) rfl rfl (fun X _ => by simp [go_sem]) ?_
                  simp only [List.getElem_toArray, List.getElem_cons_zero, List.getElem_cons_succ, Act.put, List.setIfInBounds_toArray, List.set_cons_zero, List.set_cons_succ]
                  refine wpX_f _ (.slice (some ad) 512 cap) rfl rfl (fun X _ => by simp [go_sem]) ?_
                  simp only [List.getElem_toArray, List.getElem_cons_zero, List.getElem_cons_succ, Act.put, List.setIfInBounds_toArray, List.set_cons_zero, List.set_cons_succ]
                  refine wpX_f _ (.string (bS 512 (f))) rfl rfl (fun X hX => (by have cv3 := convS (.slice (some ad) 512 cap) 512 (f) X (hu.out.ext hX); simp [go_sem, cv3])) ?_
                  simp only [List.getElem_toArray, List.getElem_cons_zero, List.getElem_cons_succ, Act.put, List.setIfInBounds_toArray, List.set_cons_zero, List.set_cons_succ]
                  refine wpX_call _ rfl rfl (by simp [go_sem]) ((rplan_any x t (.slice vo k vc) k (bP f) y1 (hG.out.il fun j _ => bok.out j) hk64.out (fun i hi => (hr.out.1 i hi).1)).mono ?_)
                  rintro e y4 ⟨pv, rfl, hp, hX5⟩
                  refine ⟨_, rfl, fun X => Ext y4 X, fun X hX => Ext.trans hX5 hX, Ext.refl _, ?_⟩
                  simp only [List.getElem_toArray, List.getElem_cons_zero, List.getElem_cons_succ, Act.put, List.setIfInBounds_toArray, List.set_cons_zero, List.set_cons_succ]
                  replace hu := hideit (hu.out.ext hX5)
                  replace hG := hideit (hG.out.ext hX5)
                  replace hE := hideit (Ext.trans hE.out hX5)
                  obtain ⟨po, pc, rfl⟩ := hp.form
                  replace hp := hideit hp
                  clear hX5
                  refine wpX_f _ (.string (bS 512 (planF x t k (bP f)))) rfl rfl (fun X hX => (by have cv6 := convS (.slice po 512 pc) 512 (planF x t k (bP f)) X (hp.out.ext hX); simp [go_sem, cv6])) ?_
                  simp only [List.getElem_toArray, List.getElem_cons_zero, List.getElem_cons_succ, Act.put, List.setIfInBounds_toArray, List.set_cons_zero, List.set_cons_succ]
                  refine wpX_f _ (.bool true) rfl rfl (fun X _ => by simp [go_sem, hq.out]) ?_
                  simp only [List.getElem_toArray, List.getElem_cons_zero, List.getElem_cons_succ, Act.put, List.setIfInBounds_toArray, List.set_cons_zero, List.set_cons_succ]
                  refine wpX_f _ (.bool true) rfl rfl (fun X _ => by simp [go_sem]) ?_
                  simp only [List.getElem_toArray, List.getElem_cons_zero, List.getElem_cons_succ, Act.put, List.setIfInBounds_toArray, List.set_cons_zero, List.set_cons_succ]
                  refine wpX_nil ?_
                  go_wp2
                  refine bodyPost_ret (res4 rfl _ _ _) rfl ?_
                  exact ⟨hE.out, .inr ⟨hno.out, rfl⟩⟩
              · have s0 : ¬ s.toNat = 0 := fun h => ht0 (by rw [← hse]; exact u0.1 h)
                have hno : Hid (¬ isPl 512 f) := fun h => ht0 (hpl.out.1 h).2.2.2.1
                replace hse := hideit hse
                replace ht0 := hideit ht0
                go_upto_region 6 with (fail)
                refine wp_region_lit ?_
                refine wpList_run rfl (.int .i64 (k : Int)) (by simp [go_sem]) ?_
                simp only [Act.put, List.setIfInBounds_toArray, List.set_cons_zero, List.set_cons_succ]
                refine wpList_run rfl (.int .i64 (k : Int)) (by simp [go_sem]) ?_
                simp only [Act.put, List.setIfInBounds_toArray, List.set_cons_zero, List.set_cons_succ]
                refine wpList_run rfl (.bool false) (by simp [go_sem, kk]) ?_
                simp only [Act.put, List.setIfInBounds_toArray, List.set_cons_zero, List.set_cons_succ]
                refine wpList_run rfl (.bool false) (by simp [go_sem]) ?_
                simp only [Act.put, List.setIfInBounds_toArray, List.set_cons_zero, List.set_cons_succ]
                with_reducible refine xnot (by with_unfolding_all rfl) ?_
                simp only [Act.put, List.setIfInBounds_toArray, List.set_cons_zero, List.set_cons_succ]
                with_reducible refine xnot (by with_unfolding_all rfl) ?_
                simp only [Act.put, List.setIfInBounds_toArray, List.set_cons_zero, List.set_cons_succ]
                refine wpList_run rfl (.bool false) (by simp [go_sem]) ?_
                simp only [Act.put, List.setIfInBounds_toArray, List.set_cons_zero, List.set_cons_succ]
                go_upto_region 9 with (fail)
                replace hu := hideit (hu.out.ext (Ext.draw (Ext.refl wr)))
                replace hG := hideit (hG.out.ext (Ext.draw (Ext.refl wr)))
                replace hE := hideit (Ext.draw hE.out)
                refine wp_region_lad (fun X => Ext wr.drew X) [(false, 0), (false, 1), (false, 2), (false, 3), (true, 4), (false, 5), (false, 6), (false, 7), (false, 8), (false, 9), (false, 10), (false, 11), (false, 12), (false, 13), (false, 14), (false, 15), (false, 16), (false, 17), (false, 18), (false, 19), (false, 20), (false, 21), (false, 22), (false, 23), (false, 24), (false, 25), (false, 26), (false, 27), (false, 28), (false, 31), (false, 32), (true, 29), (false, 30), (false, 33), (false, 34)] (by kernel_rfl) (by kernel_rfl) (by decide +kernel) (by decide +kernel) (by decide +kernel) (by decide +kernel) (Ext.refl _) ?_
                refine wpX_f _ (.int .u64 (x.toNat : Int)) rfl rfl (fun X _ => by simp [go_sem]) ?_
                simp only [List.getElem_toArray, List.getElem_cons_zero, Act.put, List.setIfInBounds_toArray, List.set_cons_zero, List.set_cons_succ]
                refine wpX_f _ (.bool false) rfl rfl (fun X _ => by simp [go_sem, x0]) ?_
                simp only [List.getElem_toArray, List.getElem_cons_zero, List.getElem_cons_succ, Act.put, List.setIfInBounds_toArray, List.set_cons_zero, List.set_cons_succ]
                refine wpX_f _ (.bool false) rfl rfl (fun X _ => by simp [go_sem]) ?_
                simp only [List.getElem_toArray, List.getElem_cons_zero, List.getElem_cons_succ, Act.put, List.setIfInBounds_toArray, List.set_cons_zero, List.set_cons_succ]
                refine wpX_f _ (.slice vo k vc) rfl rfl (fun X _ => by simp [go_sem]) ?_
                simp only [List.getElem_toArray, List.getElem_cons_zero, List.getElem_cons_succ, Act.put, List.setIfInBounds_toArray, List.set_cons_zero, List.set_cons_succ]
                refine wpX_call _ rfl rfl (by simp [go_sem]) ((rright_any (.slice vo k vc) k (bP f) wr.drew (hG.out.il fun j _ => bok.out j) hk64.out true (iff_of_true rfl hr.out)).mono ?_)
                rintro e y1 ⟨rfl, hX2⟩
                refine ⟨_, rfl, fun X => Ext y1 X, fun X hX => Ext.trans hX2 hX, Ext.refl _, ?_⟩
                simp only [List.getElem_toArray, List.getElem_cons_zero, List.getElem_cons_succ, Act.put, List.setIfInBounds_toArray, List.set_cons_zero, List.set_cons_succ]
                replace hu := hideit (hu.out.ext hX2)
                replace hG := hideit (hG.out.ext hX2)
                replace hE := hideit (Ext.trans hE.out hX2)

                clear hX2
                refine wpX_f _ (.bool false) rfl rfl (fun X _ => by simp [go_sem]) ?_
                simp only [List.getElem_toArray, List.getElem_cons_zero, List.getElem_cons_succ, Act.put, List.setIfInBounds_toArray, List.set_cons_zero, List.set_cons_succ]
                refine wpX_f _ (.bool false) rfl rfl (fun X _ => by simp [go_sem]) ?_
                simp only [List.getElem_toArray, List.getElem_cons_zero, List.getElem_cons_succ, Act.put, List.setIfInBounds_toArray, List.set_cons_zero, List.set_cons_succ]
                refine wpX_f _ (.bool false) rfl rfl (fun X _ => by simp [go_sem]) ?_
                simp only [List.getElem_toArray, List.getElem_cons_zero, List.getElem_cons_succ, Act.put, List.setIfInBounds_toArray, List.set_cons_zero, List.set_cons_succ]
                refine wpX_f _ (.slice vo k vc) rfl rfl (fun X _ => by simp [go_sem]) ?_
                simp only [List.getElem_toArray, List.getElem_cons_zero, List.getElem_cons_succ, Act.put, List.setIfInBounds_toArray, List.set_cons_zero, List.set_cons_succ]
                refine wpX_f _ (.int .i64 (k : Int)) rfl rfl (fun X _ => by simp [go_sem]) ?_
                simp only [List.getElem_toArray, List.getElem_cons_zero, List.getElem_cons_succ, Act.put, List.setIfInBounds_toArray, List.set_cons_zero, List.set_cons_succ]
                refine wpX_f _ (.int .i64 (k : Int)) rfl rfl (fun X _ => by simp [go_sem]) ?_
                simp only [List.getElem_toArray, List.getElem_cons_zero, List.getElem_cons_succ, Act.put, List.setIfInBounds_toArray, List.set_cons_zero, List.set_cons_succ]
                refine wpX_f _ (.bool false) rfl rfl (fun X _ => by simp [go_sem]) ?_
                simp only [List.getElem_toArray, List.getElem_cons_zero, List.getElem_cons_succ, Act.put, List.setIfInBounds_toArray, List.set_cons_zero, List.set_cons_succ]
                refine wpX_f _ (.bool false) rfl rfl (fun X _ => by simp [go_sem]) ?_
                simp only [List.getElem_toArray, List.getElem_cons_zero, List.getElem_cons_succ, Act.put, List.setIfInBounds_toArray, List.set_cons_zero, List.set_cons_succ]
                refine wpX_f _ (.bool false) rfl rfl (fun X _ => by simp [go_sem]) ?_
                simp only [List.getElem_toArray, List.getElem_cons_zero, List.getElem_cons_succ, Act.put, List.setIfInBounds_toArray, List.set_cons_zero, List.set_cons_succ]
                refine wpX_f _ (.slice vo k vc) rfl rfl (fun X _ => by simp [go_sem]) ?_
                simp only [List.getElem_toArray, List.getElem_cons_zero, List.getElem_cons_succ, Act.put, List.setIfInBounds_toArray, List.set_cons_zero, List.set_cons_succ]
                refine wpX_f _ (.int .i64 (k : Int)) rfl rfl (fun X _ => by simp [go_sem]) ?_
                simp only [List.getElem_toArray, List.getElem_cons_zero, List.getElem_cons_succ, Act.put, List.setIfInBounds_toArray, List.set_cons_zero, List.set_cons_succ]
                refine wpX_f _ (.bool true) rfl rfl (fun X _ => by simp [go_sem, k64]) ?_
                simp only [List.getElem_toArray, List.getElem_cons_zero, List.getElem_cons_succ, Act.put, List.setIfInBounds_toArray, List.set_cons_zero, List.set_cons_succ]
                refine wpX_f _ (.bool true) rfl rfl (fun X _ => by simp [go_sem]) ?_
                simp only [List.getElem_toArray, List.getElem_cons_zero, List.getElem_cons_succ, Act.put, List.setIfInBounds_toArray, List.set_cons_zero, List.set_cons_succ]
                refine wpX_f _ (.int .u64 (t.toNat : Int)) rfl rfl (fun X _ => by simp [go_sem]) ?_
                simp only [List.getElem_toArray, List.getElem_cons_zero, List.getElem_cons_succ, Act.put, List.setIfInBounds_toArray, List.set_cons_zero, List.set_cons_succ]
                refine wpX_f _ (.slice vo k vc) rfl rfl (fun X _ => by simp [go_sem]) ?_
                simp only [List.getElem_toArray, List.getElem_cons_zero, List.getElem_cons_succ, Act.put, List.setIfInBounds_toArray, List.set_cons_zero, List.set_cons_succ]
                refine wpX_f _ (.int .i64 (k : Int)) rfl rfl (fun X _ => by simp [go_sem]) ?_
                simp only [List.getElem_toArray, List.getElem_cons_zero, List.getElem_cons_succ, Act.put, List.setIfInBounds_toArray, List.set_cons_zero, List.set_cons_succ]
                refine wpX_f _ (.int .u64 (s.toNat : Int)) rfl rfl (fun X _ => by simp [go_sem, hs]) ?_
                simp only [List.getElem_toArray, List.getElem_cons_zero, List.getElem_cons_succ, Act.put, List.setIfInBounds_toArray, List.set_cons_zero, List.set_cons_succ]
                refine wpX_f _ (.bool true) rfl rfl (fun X _ => by simp [go_sem, s0]) ?_
                simp only [List.getElem_toArray, List.getElem_cons_zero, List.getElem_cons_succ, Act.put, List.setIfInBounds_toArray, List.set_cons_zero, List.set_cons_succ]
                refine wpX_f _ (.bool true) rfl rfl (fun X _ => by simp [go_sem]) ?_
                simp only [List.getElem_toArray, List.getElem_cons_zero, List.getElem_cons_succ, Act.put, List.setIfInBounds_toArray, List.set_cons_zero, List.set_cons_succ]
                refine wpX_f _ (.bool true) rfl rfl (fun X _ => by simp [go_sem]) ?_
                simp only [List.getElem_toArray, List.getElem_cons_zero, List.getElem_cons_succ, Act.put, List.setIfInBounds_toArray, List.set_cons_zero, List.set_cons_succ]
                refine wpX_f _ (.bool true) rfl rfl (fun X _ => by simp [go_sem]) ?_
                simp only [List.getElem_toArray, List.getElem_cons_zero, List.getElem_cons_succ, Act.put, List.setIfInBounds_toArray, List.set_cons_zero, List.set_cons_succ]
                refine wpX_fskip _ rfl rfl ?_
                simp only [List.getElem_toArray, List.getElem_cons_zero, List.getElem_cons_succ, Act.put, List.setIfInBounds_toArray, List.set_cons_zero, List.set_cons_succ]
                refine wpX_fskip _ rfl rfl ?_
                simp only [List.getElem_toArray, List.getElem_cons_zero, List.getElem_cons_succ, Act.put, List.setIfInBounds_toArray, List.set_cons_zero, List.set_cons_succ]
                refine wpX_fskip _ rfl rfl ?_
                simp only [List.getElem_toArray, List.getElem_cons_zero, List.getElem_cons_succ, Act.put, List.setIfInBounds_toArray, List.set_cons_zero, List.set_cons_succ]
                refine wpX_fskip _ rfl rfl ?_
                simp only [List.getElem_toArray, List.getElem_cons_zero, List.getElem_cons_succ, Act.put, List.setIfInBounds_toArray, List.set_cons_zero, List.set_cons_succ]
                refine wpX_fskip _ rfl rfl ?_
                simp only [List.getElem_toArray, List.getElem_cons_zero, List.getElem_cons_succ, Act.put, List.setIfInBounds_toArray, List.set_cons_zero, List.set_cons_succ]
                refine ⟨_, rfl, .inr ⟨rfl, fun X => Ext y1 X, fun X hX => hX, Ext.refl _, ?_⟩⟩
                simp only [List.getElem_toArray, List.getElem_cons_zero, List.getElem_cons_succ, Act.put, List.setIfInBounds_toArray, List.set_cons_zero, List.set_cons_succ]
                refine wpX_fskip _ rfl rfl ?_
                simp only [List.getElem_toArray, List.getElem_cons_zero, List.getElem_cons_succ, Act.put, List.setIfInBounds_toArray, List.set_cons_zero, List.set_cons_succ]
                refine wpX_fskip _ rfl rfl ?_
                simp only [List.getElem_toArray, List.getElem_cons_zero, List.getElem_cons_succ, Act.put, List.setIfInBounds_toArray, List.set_cons_zero, List.set_cons_succ]
                refine wpX_f _ (.bool true) rfl rfl (fun X _ => by simp [go_sem]) ?_
                simp only [List.getElem_toArray, List.getElem_cons_zero, List.getElem_cons_succ, Act.put, List.setIfInBounds_toArray, List.set_cons_zero, List.set_cons_succ]
                refine wpX_nil ?_
                go_wp2
                refine bodyPost_ret (res4 rfl _ _ _) rfl ?_
                exact ⟨hE.out, .inr ⟨hno.out, rfl⟩⟩
            · have k64 : ¬ (k : Int) < 64 := by omega
              have ht0 : t >>> k = 0#64 := by
                obtain rfl : k = 64 := by have := hk64.out; omega
                exact BitVec.ushiftRight_eq_zero (by decide)
              by_cases hq : (bS 512 (planF x t k (bP f))).toList = (bS 512 f).toList
              · have hyes : Hid (isPl 512 f) := hpl.out.2 ⟨fun h => x0 (u0.2 h), hr.out, hk64.out, ht0, hq⟩
                replace hq := hideit hq
                replace ht0 := hideit ht0
                go_upto_region 6 with (fail)
                refine wp_region_lit ?_
                refine wpList_run rfl (.int .i64 (k : Int)) (by simp [go_sem]) ?_
                simp only [Act.put, List.setIfInBounds_toArray, List.set_cons_zero, List.set_cons_succ]
                refine wpList_run rfl (.int .i64 (k : Int)) (by simp [go_sem]) ?_
                simp only [Act.put, List.setIfInBounds_toArray, List.set_cons_zero, List.set_cons_succ]
                refine wpList_run rfl (.bool false) (by simp [go_sem, kk]) ?_
                simp only [Act.put, List.setIfInBounds_toArray, List.set_cons_zero, List.set_cons_succ]
                refine wpList_run rfl (.bool false) (by simp [go_sem]) ?_
                simp only [Act.put, List.setIfInBounds_toArray, List.set_cons_zero, List.set_cons_succ]
                with_reducible refine xnot (by with_unfolding_all rfl) ?_
                simp only [Act.put, List.setIfInBounds_toArray, List.set_cons_zero, List.set_cons_succ]
                with_reducible refine xnot (by with_unfolding_all rfl) ?_
                simp only [Act.put, List.setIfInBounds_toArray, List.set_cons_zero, List.set_cons_succ]
                refine wpList_run rfl (.bool false) (by simp [go_sem]) ?_
                simp only [Act.put, List.setIfInBounds_toArray, List.set_cons_zero, List.set_cons_succ]
                go_upto_region 9 with (fail)
                replace hu := hideit (hu.out.ext (Ext.draw (Ext.refl wr)))
                replace hG := hideit (hG.out.ext (Ext.draw (Ext.refl wr)))
                replace hE := hideit (Ext.draw hE.out)
                refine wp_region_lad (fun X => Ext wr.drew X) [(false, 0), (false, 1), (false, 2), (false, 3), (true, 4), (false, 5), (false, 6), (false, 7), (false, 8), (false, 9), (false, 10), (false, 11), (false, 12), (false, 13), (false, 14), (false, 15), (false, 16), (false, 17), (false, 18), (false, 19), (false, 20), (false, 21), (false, 22), (false, 23), (false, 24), (false, 25), (false, 26), (false, 27), (false, 28), (false, 31), (false, 32), (true, 29), (false, 30), (false, 33), (false, 34)] (by kernel_rfl) (by kernel_rfl) (by decide +kernel) (by decide +kernel) (by decide +kernel) (by decide +kernel) (Ext.refl _) ?_
                refine wpX_f _ (.int .u64 (x.toNat : Int)) rfl rfl (fun X _ => by simp [go_sem]) ?_
                simp only [List.getElem_toArray, List.getElem_cons_zero, Act.put, List.setIfInBounds_toArray, List.set_cons_zero, List.set_cons_succ]
                refine wpX_f _ (.bool false) rfl rfl (fun X _ => by simp [go_sem, x0]) ?_
                simp only [List.getElem_toArray, List.getElem_cons_zero, List.getElem_cons_succ, Act.put, List.setIfInBounds_toArray, List.set_cons_zero, List.set_cons_succ]
                refine wpX_f _ (.bool false) rfl rfl (fun X _ => by simp [go_sem]) ?_
                simp only [List.getElem_toArray, List.getElem_cons_zero, List.getElem_cons_succ, Act.put, List.setIfInBounds_toArray, List.set_cons_zero, List.set_cons_succ]
                refine wpX_f _ (.slice vo k vc) rfl rfl (fun X _ => by simp [go_sem]) ?_
                simp only [List.getElem_toArray, List.getElem_cons_zero, List.getElem_cons_succ, Act.put, List.setIfInBounds_toArray, List.set_cons_zero, List.set_cons_succ]
                refine wpX_call _ rfl rfl (by simp [go_sem]) ((rright_any (.slice vo k vc) k (bP f) wr.drew (hG.out.il fun j _ => bok.out j) hk64.out true (iff_of_true rfl hr.out)).mono ?_)
                rintro e y1 ⟨rfl, hX2⟩
                refine ⟨_, rfl, fun X => Ext y1 X, fun X hX => Ext.trans hX2 hX, Ext.refl _, ?_⟩
                simp only [List.getElem_toArray, List.getElem_cons_zero, List.getElem_cons_succ, Act.put, List.setIfInBounds_toArray, List.set_cons_zero, List.set_cons_succ]
                replace hu := hideit (hu.out.ext hX2)
                replace hG := hideit (hG.out.ext hX2)
                replace hE := hideit (Ext.trans hE.out hX2)

                clear hX2
                refine wpX_f _ (.bool false) rfl rfl (fun X _ => by simp [go_sem]) ?_
                simp only [List.getElem_toArray, List.getElem_cons_zero, List.getElem_cons_succ, Act.put, List.setIfInBounds_toArray, List.set_cons_zero, List.set_cons_succ]
                refine wpX_f _ (.bool false) rfl rfl (fun X _ => by simp [go_sem]) ?_
                simp only [List.getElem_toArray, List.getElem_cons_zero, List.getElem_cons_succ, Act.put, List.setIfInBounds_toArray, List.set_cons_zero, List.set_cons_succ]
                refine wpX_f _ (.bool false) rfl rfl (fun X _ => by simp [go_sem]) ?_
                simp only [List.getElem_toArray, List.getElem_cons_zero, List.getElem_cons_succ, Act.put, List.setIfInBounds_toArray, List.set_cons_zero, List.set_cons_succ]
                refine wpX_f _ (.slice vo k vc) rfl rfl (fun X _ => by simp [go_sem]) ?_
                simp only [List.getElem_toArray, List.getElem_cons_zero, List.getElem_cons_succ, Act.put, List.setIfInBounds_toArray, List.set_cons_zero, List.set_cons_succ]
                refine wpX_f _ (.int .i64 (k : Int)) rfl rfl (fun X _ => by simp [go_sem]) ?_
                simp only [List.getElem_toArray, List.getElem_cons_zero, List.getElem_cons_succ, Act.put, List.setIfInBounds_toArray, List.set_cons_zero, List.set_cons_succ]
                refine wpX_f _ (.int .i64 (k : Int)) rfl rfl (fun X _ => by simp [go_sem]) ?_
                simp only [List.getElem_toArray, List.getElem_cons_zero, List.getElem_cons_succ, Act.put, List.setIfInBounds_toArray, List.set_cons_zero, List.set_cons_succ]
                refine wpX_f _ (.bool false) rfl rfl (fun X _ => by simp [go_sem]) ?_
                simp only [List.getElem_toArray, List.getElem_cons_zero, List.getElem_cons_succ, Act.put, List.setIfInBounds_toArray, List.set_cons_zero, List.set_cons_succ]
                refine wpX_f _ (.bool false) rfl rfl (fun X _ => by simp [go_sem]) ?_
                simp only [List.getElem_toArray, List.getElem_cons_zero, List.getElem_cons_succ, Act.put, List.setIfInBounds_toArray, List.set_cons_zero, List.set_cons_succ]
                refine wpX_f _ (.bool false) rfl rfl (fun X _ => by simp [go_sem]) ?_
                simp only [List.getElem_toArray, List.getElem_cons_zero, List.getElem_cons_succ, Act.put, List.setIfInBounds_toArray, List.set_cons_zero, List.set_cons_succ]
                refine wpX_f _ (.slice vo k vc) rfl rfl (fun X _ => by simp [go_sem]) ?_
                simp only [List.getElem_toArray, List.getElem_cons_zero, List.getElem_cons_succ, Act.put, List.setIfInBounds_toArray, List.set_cons_zero, List.set_cons_succ]
                refine wpX_f _ (.int .i64 (k : Int)) rfl rfl (fun X _ => by simp [go_sem]) ?_
                simp only [List.getElem_toArray, List.getElem_cons_zero, List.getElem_cons_succ, Act.put, List.setIfInBounds_toArray, List.set_cons_zero, List.set_cons_succ]
                refine wpX_f _ (.bool false) rfl rfl (fun X _ => by simp [go_sem, k64]) ?_
                simp only [List.getElem_toArray, List.getElem_cons_zero, List.getElem_cons_succ, Act.put, List.setIfInBounds_toArray, List.set_cons_zero, List.set_cons_succ]
                refine wpX_f _ (.bool false) rfl rfl (fun X _ => by simp [go_sem]) ?_
                simp only [List.getElem_toArray, List.getElem_cons_zero, List.getElem_cons_succ, Act.put, List.setIfInBounds_toArray, List.set_cons_zero, List.set_cons_succ]
                refine wpX_fskip _ rfl rfl ?_
                simp only [List.getElem_toArray, List.getElem_cons_zero, List.getElem_cons_succ, Act.put, List.setIfInBounds_toArray, List.set_cons_zero, List.set_cons_succ]
                refine wpX_fskip _ rfl rfl ?_
                simp only [List.getElem_toArray, List.getElem_cons_zero, List.getElem_cons_succ, Act.put, List.setIfInBounds_toArray, List.set_cons_zero, List.set_cons_succ]
                refine wpX_fskip _ rfl rfl ?_
                simp only [List.getElem_toArray, List.getElem_cons_zero, List.getElem_cons_succ, Act.put, List.setIfInBounds_toArray, List.set_cons_zero, List.set_cons_succ]
                refine wpX_fskip _ rfl rfl ?_
                simp only [List.getElem_toArray, List.getElem_cons_zero, List.getElem_cons_succ, Act.put, List.setIfInBounds_toArray, List.set_cons_zero, List.set_cons_succ]
                refine wpX_fskip _ rfl rfl ?_
                simp only [List.getElem_toArray, List.getElem_cons_zero, List.getElem_cons_succ, Act.put, List.setIfInBounds_toArray, List.set_cons_zero, List.set_cons_succ]
                refine wpX_f _ (.bool false) rfl rfl (fun X _ => by simp [go_sem]) ?_
                simp only [List.getElem_toArray, List.getElem_cons_zero, List.getElem_cons_succ, Act.put, List.setIfInBounds_toArray, List.set_cons_zero, List.set_cons_succ]
                refine wpX_f _ (.bool false) rfl rfl (fun X _ => by simp [go_sem]) ?_
                simp only [List.getElem_toArray, List.getElem_cons_zero, List.getElem_cons_succ, Act.put, List.setIfInBounds_toArray, List.set_cons_zero, List.set_cons_succ]
                refine wpX_f _ (.bool false) rfl rfl (fun X _ => by simp [go_sem]) ?_
                simp only [List.getElem_toArray, List.getElem_cons_zero, List.getElem_cons_succ, Act.put, List.setIfInBounds_toArray, List.set_cons_zero, List.set_cons_succ]
                refine wpX_f _ (.int .u64 (x.toNat : Int)) rfl rfl (fun X _ => by simp [go_sem]) ?_
                simp only [List.getElem_toArray, List.getElem_cons_zero, List.getElem_cons_succ, Act.put, List.setIfInBounds_toArray, List.set_cons_zero, List.set_cons_succ]
                refine wpX_f _ (.slice vo k vc) rfl rfl (fun X _ => by simp [go_sem]) ?_
                simp only [List.getElem_toArray, List.getElem_cons_zero, List.getElem_cons_succ, Act.put, List.setIfInBounds_toArray, List.set_cons_zero, List.set_cons_succ]
                refine wpX_f _ (.int .u64 (t.toNat : Int)) rfl rfl (fun X _ => by simp [go_sem]) ?_
                simp only [List.getElem_toArray, List.getElem_cons_zero, List.getElem_cons_succ, Act.put, List.setIfInBounds_toArray, List.set_cons_zero, List.set_cons_succ]
                refine wpX_f _ (.slice (some ad) 512 cap) rfl rfl (fun X _ => by simp [go_sem]) ?_
                simp only [List.getElem_toArray, List.getElem_cons_zero, List.getElem_cons_succ, Act.put, List.setIfInBounds_toArray, List.set_cons_zero, List.set_cons_succ]
                refine wpX_f _ (.string (bS 512 (f))) rfl rfl (fun X hX => (by have cv3 := convS (.slice (some ad) 512 cap) 512 (f) X (hu.out.ext hX); simp [go_sem, cv3])) ?_
                simp only [List.getElem_toArray, List.getElem_cons_zero, List.getElem_cons_succ, Act.put, List.setIfInBounds_toArray, List.set_cons_zero, List.set_cons_succ]
                refine wpX_call _ rfl rfl (by simp [go_sem]) ((rplan_any x t (.slice vo k vc) k (bP f) y1 (hG.out.il fun j _ => bok.out j) hk64.out (fun i hi => (hr.out.1 i hi).1)).mono ?_)
                rintro e y4 ⟨pv, rfl, hp, hX5⟩
                refine ⟨_, rfl, fun X => Ext y4 X, fun X hX => Ext.trans hX5 hX, Ext.refl _, ?_⟩
                simp only [List.getElem_toArray, List.getElem_cons_zero, List.getElem_cons_succ, Act.put, List.setIfInBounds_toArray, List.set_cons_zero, List.set_cons_succ]
                replace hu := hideit (hu.out.ext hX5)
                replace hG := hideit (hG.out.ext hX5)
                replace hE := hideit (Ext.trans hE.out hX5)
                obtain ⟨po, pc, rfl⟩ := hp.form
                replace hp := hideit hp
                clear hX5
                refine wpX_f _ (.string (bS 512 (planF x t k (bP f)))) rfl rfl (fun X hX => (by have cv6 := convS (.slice po 512 pc) 512 (planF x t k (bP f)) X (hp.out.ext hX); simp [go_sem, cv6])) ?_
                simp only [List.getElem_toArray, List.getElem_cons_zero, List.getElem_cons_succ, Act.put, List.setIfInBounds_toArray, List.set_cons_zero, List.set_cons_succ]
                refine wpX_f _ (.bool false) rfl rfl (fun X _ => by simp [go_sem, hq.out]) ?_
                simp only [List.getElem_toArray, List.getElem_cons_zero, List.getElem_cons_succ, Act.put, List.setIfInBounds_toArray, List.set_cons_zero, List.set_cons_succ]
                refine wpX_f _ (.bool false) rfl rfl (fun X _ => by simp [go_sem]) ?_
                simp only [List.getElem_toArray, List.getElem_cons_zero, List.getElem_cons_succ, Act.put, List.setIfInBounds_toArray, List.set_cons_zero, List.set_cons_succ]
                refine wpX_nil ?_
                go_upto_region 11 with (fail)
                refine wp_region_lit ?_
                refine wpList_run rfl (.int .u64 (x.toNat : Int)) (by simp [go_sem]) ?_
                simp only [Act.put, List.setIfInBounds_toArray, List.set_cons_zero, List.set_cons_succ]
                refine wpList_run rfl (.slice vo k vc) (by simp [go_sem]) ?_
                simp only [Act.put, List.setIfInBounds_toArray, List.set_cons_zero, List.set_cons_succ]
                refine wpList_run rfl (.int .u64 (t.toNat : Int)) (by simp [go_sem]) ?_
                simp only [Act.put, List.setIfInBounds_toArray, List.set_cons_zero, List.set_cons_succ]
                refine wpList_run rfl (.int .u64 (x.toNat : Int)) (by simp [go_sem]) ?_
                simp only [Act.put, List.setIfInBounds_toArray, List.set_cons_zero, List.set_cons_succ]
                refine wpList_run rfl (.slice vo k vc) (by simp [go_sem]) ?_
                simp only [Act.put, List.setIfInBounds_toArray, List.set_cons_zero, List.set_cons_succ]
                refine wpList_run rfl (.int .u64 (t.toNat : Int)) (by simp [go_sem]) ?_
                simp only [Act.put, List.setIfInBounds_toArray, List.set_cons_zero, List.set_cons_succ]
                refine wpList_run rfl (.int .i64 0) (by simp [go_sem]) ?_
                simp only [Act.put, List.setIfInBounds_toArray, List.set_cons_zero, List.set_cons_succ]
                go_wp2
                refine bodyPost_ret (res4 rfl _ _ _) rfl ?_
                exact ⟨hE.out, .inl ⟨hyes.out, _, by rw [hx.out, ht.out]; rfl, by rw [hc.out]; exact ⟨hG.out.1, hG.out.2⟩⟩⟩
              · have hno : Hid (¬ isPl 512 f) := fun h => hq (hpl.out.1 h).2.2.2.2
                replace hq := hideit hq
                replace ht0 := hideit ht0
                go_upto_region 6 with (fail)
                refine wp_region_lit ?_
                refine wpList_run rfl (.int .i64 (k : Int)) (by simp [go_sem]) ?_
                simp only [Act.put, List.setIfInBounds_toArray, List.set_cons_zero, List.set_cons_succ]
                refine wpList_run rfl (.int .i64 (k : Int)) (by simp [go_sem]) ?_
                simp only [Act.put, List.setIfInBounds_toArray, List.set_cons_zero, List.set_cons_succ]
                refine wpList_run rfl (.bool false) (by simp [go_sem, kk]) ?_
                simp only [Act.put, List.setIfInBounds_toArray, List.set_cons_zero, List.set_cons_succ]
                refine wpList_run rfl (.bool false) (by simp [go_sem]) ?_
                simp only [Act.put, List.setIfInBounds_toArray, List.set_cons_zero, List.set_cons_succ]
                with_reducible refine xnot (by with_unfolding_all rfl) ?_
                simp only [Act.put, List.setIfInBounds_toArray, List.set_cons_zero, List.set_cons_succ]
                with_reducible refine xnot (by with_unfolding_all rfl) ?_
                simp only [Act.put, List.setIfInBounds_toArray, List.set_cons_zero, List.set_cons_succ]
                refine wpList_run rfl (.bool false) (by simp [go_sem]) ?_
                simp only [Act.put, List.setIfInBounds_toArray, List.set_cons_zero, List.set_cons_succ]
                go_upto_region 9 with (fail)
                replace hu := hideit (hu.out.ext (Ext.draw (Ext.refl wr)))
                replace hG := hideit (hG.out.ext (Ext.draw (Ext.refl wr)))
                replace hE := hideit (Ext.draw hE.out)
                refine wp_region_lad (fun X => Ext wr.drew X) [(false, 0), (false, 1), (false, 2), (false, 3), (true, 4), (false, 5), (false, 6), (false, 7), (false, 8), (false, 9), (false, 10), (false, 11), (false, 12), (false, 13), (false, 14), (false, 15), (false, 16), (false, 17), (false, 18), (false, 19), (false, 20), (false, 21), (false, 22), (false, 23), (false, 24), (false, 25), (false, 26), (false, 27), (false, 28), (false, 31), (false, 32), (true, 29), (false, 30), (false, 33), (false, 34)] (by kernel_rfl) (by kernel_rfl) (by decide +kernel) (by decide +kernel) (by decide +kernel) (by decide +kernel) (Ext.refl _) ?_
                refine wpX_f _ (.int .u64 (x.toNat : Int)) rfl rfl (fun X _ => by simp [go_sem]) ?_
                simp only [List.getElem_toArray, List.getElem_cons_zero, Act.put, List.setIfInBounds_toArray, List.set_cons_zero, List.set_cons_succ]
                refine wpX_f _ (.bool false) rfl rfl (fun X _ => by simp [go_sem, x0]) ?_
                simp only [List.getElem_toArray, List.getElem_cons_zero, List.getElem_cons_succ, Act.put, List.setIfInBounds_toArray, List.set_cons_zero, List.set_cons_succ]
                refine wpX_f _ (.bool false) rfl rfl (fun X _ => by simp [go_sem]) ?_
                simp only [List.getElem_toArray, List.getElem_cons_zero, List.getElem_cons_succ, Act.put, List.setIfInBounds_toArray, List.set_cons_zero, List.set_cons_succ]
                refine wpX_f _ (.slice vo k vc) rfl rfl (fun X _ => by simp [go_sem]) ?_
                simp only [List.getElem_toArray, List.getElem_cons_zero, List.getElem_cons_succ, Act.put, List.setIfInBounds_toArray, List.set_cons_zero, List.set_cons_succ]
                refine wpX_call _ rfl rfl (by simp [go_sem]) ((rright_any (.slice vo k vc) k (bP f) wr.drew (hG.out.il fun j _ => bok.out j) hk64.out true (iff_of_true rfl hr.out)).mono ?_)
                rintro e y1 ⟨rfl, hX2⟩
                refine ⟨_, rfl, fun X => Ext y1 X, fun X hX => Ext.trans hX2 hX, Ext.refl _, ?_⟩
                simp only [List.getElem_toArray, List.getElem_cons_zero, List.getElem_cons_succ, Act.put, List.setIfInBounds_toArray, List.set_cons_zero, List.set_cons_succ]
                replace hu := hideit (hu.out.ext hX2)
                replace hG := hideit (hG.out.ext hX2)
                replace hE := hideit (Ext.trans hE.out hX2)

                clear hX2
                refine wpX_f _ (.bool false) rfl rfl (fun X _ => by simp [go_sem]) ?_
                simp only [List.getElem_toArray, List.getElem_cons_zero, List.getElem_cons_succ, Act.put, List.setIfInBounds_toArray, List.set_cons_zero, List.set_cons_succ]
                refine wpX_f _ (.bool false) rfl rfl (fun X _ => by simp [go_sem]) ?_
                simp only [List.getElem_toArray, List.getElem_cons_zero, List.getElem_cons_succ, Act.put, List.setIfInBounds_toArray, List.set_cons_zero, List.set_cons_succ]
                refine wpX_f _ (.bool false) rfl rfl (fun X _ => by simp [go_sem]) ?_
                simp only [List.getElem_toArray, List.getElem_cons_zero, List.getElem_cons_succ, Act.put, List.setIfInBounds_toArray, List.set_cons_zero, List.set_cons_succ]
                refine wpX_f _ (.slice vo k vc) rfl rfl (fun X _ => by simp [go_sem]) ?_
                simp only [List.getElem_toArray, List.getElem_cons_zero, List.getElem_cons_succ, Act.put, List.setIfInBounds_toArray, List.set_cons_zero, List.set_cons_succ]
                refine wpX_f _ (.int .i64 (k : Int)) rfl rfl (fun X _ => by simp [go_sem]) ?_
                simp only [List.getElem_toArray, List.getElem_cons_zero, List.getElem_cons_succ, Act.put, List.setIfInBounds_toArray, List.set_cons_zero, List.set_cons_succ]
                refine wpX_f _ (.int .i64 (k : Int)) rfl rfl (fun X _ => by simp [go_sem]) ?_
                simp only [List.getElem_toArray, List.getElem_cons_zero, List.getElem_cons_succ, Act.put, List.setIfInBounds_toArray, List.set_cons_zero, List.set_cons_succ]
                refine wpX_f _ (.bool false) rfl rfl (fun X _ => by simp [go_sem]) ?_
                simp only [List.getElem_toArray, List.getElem_cons_zero, List.getElem_cons_succ, Act.put, List.setIfInBounds_toArray, List.set_cons_zero, List.set_cons_succ]
                refine wpX_f _ (.bool false) rfl rfl (fun X _ => by simp [go_sem]) ?_
                simp only [List.getElem_toArray, List.getElem_cons_zero, List.getElem_cons_succ, Act.put, List.setIfInBounds_toArray, List.set_cons_zero, List.set_cons_succ]
                refine wpX_f _ (.bool false) rfl rfl (fun X _ => by simp [go_sem]) ?_
                simp only [List.getElem_toArray, List.getElem_cons_zero, List.getElem_cons_succ, Act.put, List.setIfInBounds_toArray, List.set_cons_zero, List.set_cons_succ]
                refine wpX_f _ (.slice vo k vc) rfl rfl (fun X _ => by simp [go_sem]) ?_
                simp only [List.getElem_toArray, List.getElem_cons_zero, List.getElem_cons_succ, Act.put, List.setIfInBounds_toArray, List.set_cons_zero, List.set_cons_succ]
                refine wpX_f _ (.int .i64 (k : Int)) rfl rfl (fun X _ => by simp [go_sem]) ?_
                simp only [List.getElem_toArray, List.getElem_cons_zero, List.getElem_cons_succ, Act.put, List.setIfInBounds_toArray, List.set_cons_zero, List.set_cons_succ]
                refine wpX_f _ (.bool false) rfl rfl (fun X _ => by simp [go_sem, k64]) ?_
                simp only [List.getElem_toArray, List.getElem_cons_zero, List.getElem_cons_succ, Act.put, List.setIfInBounds_toArray, List.set_cons_zero, List.set_cons_succ]
                refine wpX_f _ (.bool false) rfl rfl (fun X _ => by simp [go_sem]) ?_
                simp only [List.getElem_toArray, List.getElem_cons_zero, List.getElem_cons_succ, Act.put, List.setIfInBounds_toArray, List.set_cons_zero, List.set_cons_succ]
                refine wpX_fskip _ rfl rfl ?_
                simp only [List.getElem_toArray, List.getElem_cons_zero, List.getElem_cons_succ, Act.put, List.setIfInBounds_toArray, List.set_cons_zero, List.set_cons_succ]
                refine wpX_fskip _ rfl rfl ?_
                simp only [List.getElem_toArray, List.getElem_cons_zero, List.getElem_cons_succ, Act.put, List.setIfInBounds_toArray, List.set_cons_zero, List.set_cons_succ]
                refine wpX_fskip _ rfl rfl ?_
                simp only [List.getElem_toArray, List.getElem_cons_zero, List.getElem_cons_succ, Act.put, List.setIfInBounds_toArray, List.set_cons_zero, List.set_cons_succ]
                refine wpX_fskip _ rfl rfl ?_
                simp only [List.getElem_toArray, List.getElem_cons_zero, List.getElem_cons_succ, Act.put, List.setIfInBounds_toArray, List.set_cons_zero, List.set_cons_succ]
                refine wpX_fskip _ rfl rfl ?_
                simp only [List.getElem_toArray, List.getElem_cons_zero, List.getElem_cons_succ, Act.put, List.setIfInBounds_toArray, List.set_cons_zero, List.set_cons_succ]
                refine wpX_f _ (.bool false) rfl rfl (fun X _ => by simp [go_sem]) ?_
                simp only [List.getElem_toArray, List.getElem_cons_zero, List.getElem_cons_succ, Act.put, List.setIfInBounds_toArray, List.set_cons_zero, List.set_cons_succ]
                refine wpX_f _ (.bool false) rfl rfl (fun X _ => by simp [go_sem]) ?_
                simp only [List.getElem_toArray, List.getElem_cons_zero, List.getElem_cons_succ, Act.put, List.setIfInBounds_toArray, List.set_cons_zero, List.set_cons_succ]
                refine wpX_f _ (.bool false) rfl rfl (fun X _ => by simp [go_sem]) ?_
                simp only [List.getElem_toArray, List.getElem_cons_zero, List.getElem_cons_succ, Act.put, List.setIfInBounds_toArray, List.set_cons_zero, List.set_cons_succ]
                refine wpX_f _ (.int .u64 (x.toNat : Int)) rfl rfl (fun X _ => by simp [go_sem]) ?_
                simp only [List.getElem_toArray, List.getElem_cons_zero, List.getElem_cons_succ, Act.put, List.setIfInBounds_toArray, List.set_cons_zero, List.set_cons_succ]
                refine wpX_f _ (.slice vo k vc) rfl rfl (fun X _ => by simp [go_sem]) ?_
                simp only [List.getElem_toArray, List.getElem_cons_zero, List.getElem_cons_succ, Act.put, List.setIfInBounds_toArray, List.set_cons_zero, List.set_cons_succ]
                refine wpX_f _ (.int .u64 (t.toNat : Int)) rfl rfl (fun X _ => by simp [go_sem]) ?_
                simp only [List.getElem_toArray, List.getElem_cons_zero, List.getElem_cons_succ, Act.put, List.setIfInBounds_toArray, List.set_cons_zero, List.set_cons_succ]
                refine wpX_f _ (.slice (some ad) 512 cap) rfl rfl (fun X _ => by simp [go_sem]) ?_
                simp only [List.getElem_toArray, List.getElem_cons_zero, List.getElem_cons_succ, Act.put, List.setIfInBounds_toArray, List.set_cons_zero, List.set_cons_succ]
                refine wpX_f _ (.string (bS 512 (f))) rfl rfl (fun X hX => (by have cv3 := convS (.slice (some ad) 512 cap) 512 (f) X (hu.out.ext hX); simp [go_sem, cv3])) ?_
                simp only [List.getElem_toArray, List.getElem_cons_zero, List.getElem_cons_succ, Act.put, List.setIfInBounds_toArray, List.set_cons_zero, List.set_cons_succ]
                refine wpX_call _ rfl rfl (by simp [go_sem]) ((rplan_any x t (.slice vo k vc) k (bP f) y1 (hG.out.il fun j _ => bok.out j) hk64.out (fun i hi => (hr.out.1 i hi).1)).mono ?_)
                rintro e y4 ⟨pv, rfl, hp, hX5⟩
                refine ⟨_, rfl, fun X => Ext y4 X, fun X hX => Ext.trans hX5 hX, Ext.refl _, ?_⟩
                simp only [List.getElem_toArray, List.getElem_cons_zero, List.getElem_cons_succ, Act.put, List.setIfInBounds_toArray, List.set_cons_zero, List.set_cons_succ]
                replace hu := hideit (hu.out.ext hX5)
                replace hG := hideit (hG.out.ext hX5)
                replace hE := hideit (Ext.trans hE.out hX5)
                obtain ⟨po, pc, rfl⟩ := hp.form
                replace hp := hideit hp
                clear hX5
                refine wpX_f _ (.string (bS 512 (planF x t k (bP f)))) rfl rfl (fun X hX => (by have cv6 := convS (.slice po 512 pc) 512 (planF x t k (bP f)) X (hp.out.ext hX); simp [go_sem, cv6])) ?_
                simp only [List.getElem_toArray, List.getElem_cons_zero, List.getElem_cons_succ, Act.put, List.setIfInBounds_toArray, List.set_cons_zero, List.set_cons_succ]
                refine wpX_f _ (.bool true) rfl rfl (fun X _ => by simp [go_sem, hq.out]) ?_
                simp only [List.getElem_toArray, List.getElem_cons_zero, List.getElem_cons_succ, Act.put, List.setIfInBounds_toArray, List.set_cons_zero, List.set_cons_succ]
                refine wpX_f _ (.bool true) rfl rfl (fun X _ => by simp [go_sem]) ?_
                simp only [List.getElem_toArray, List.getElem_cons_zero, List.getElem_cons_succ, Act.put, List.setIfInBounds_toArray, List.set_cons_zero, List.set_cons_succ]
                refine wpX_nil ?_
                go_wp2
                refine bodyPost_ret (res4 rfl _ _ _) rfl ?_
                exact ⟨hE.out, .inr ⟨hno.out, rfl⟩⟩
          · have hno : Hid (¬ isPl 512 f) := fun h => by have := (hpl.out.1 h).2.2.1; have := hmin.out; omega
            have kc : (k : Int) < (c : Int) := by have := hkc.out; omega
            have k64 : ¬ (k : Int) < 64 := by have := hmin.out; omega
            have kne : ¬ (k : Int) = (c : Int) := by omega
            replace hkc2 := hideit hkc2
            go_upto_region 6 with (fail)
            refine wp_region_lit ?_
            refine wpList_run rfl (.int .i64 (k : Int)) (by simp [go_sem]) ?_
            simp only [Act.put, List.setIfInBounds_toArray, List.set_cons_zero, List.set_cons_succ]
            refine wpList_run rfl (.int .i64 (c : Int)) (by simp [go_sem]) ?_
            simp only [Act.put, List.setIfInBounds_toArray, List.set_cons_zero, List.set_cons_succ]
            refine wpList_run rfl (.bool true) (by simp [go_sem, kc]) ?_
            simp only [Act.put, List.setIfInBounds_toArray, List.set_cons_zero, List.set_cons_succ]
            refine wpList_run rfl (.bool true) (by simp [go_sem]) ?_
            simp only [Act.put, List.setIfInBounds_toArray, List.set_cons_zero, List.set_cons_succ]
            refine wpList_runW rfl (.int .i64 (k : Int)) (by simp [go_sem]) ?_
            simp only [Act.put, List.setIfInBounds_toArray, List.set_cons_zero, List.set_cons_succ]
            refine wpList_runW rfl (.bool false) (by simp [go_sem, k64]) ?_
            simp only [Act.put, List.setIfInBounds_toArray, List.set_cons_zero, List.set_cons_succ]
            refine wpList_run rfl (.bool false) (by simp [go_sem]) ?_
            simp only [Act.put, List.setIfInBounds_toArray, List.set_cons_zero, List.set_cons_succ]
            go_upto_region 9 with (fail)
            replace hu := hideit (hu.out.ext (Ext.draw (Ext.refl wr)))
            replace hG := hideit (hG.out.ext (Ext.draw (Ext.refl wr)))
            replace hE := hideit (Ext.draw hE.out)
            refine wp_region_lad (fun X => Ext wr.drew X) [(false, 0), (false, 1), (false, 2), (false, 3), (true, 4), (false, 5), (false, 6), (false, 7), (false, 8), (false, 9), (false, 10), (false, 11), (false, 12), (false, 13), (false, 14), (false, 15), (false, 16), (false, 17), (false, 18), (false, 19), (false, 20), (false, 21), (false, 22), (false, 23), (false, 24), (false, 25), (false, 26), (false, 27), (false, 28), (false, 31), (false, 32), (true, 29), (false, 30), (false, 33), (false, 34)] (by kernel_rfl) (by kernel_rfl) (by decide +kernel) (by decide +kernel) (by decide +kernel) (by decide +kernel) (Ext.refl _) ?_
            refine wpX_f _ (.int .u64 (x.toNat : Int)) rfl rfl (fun X _ => by simp [go_sem]) ?_
            simp only [List.getElem_toArray, List.getElem_cons_zero, Act.put, List.setIfInBounds_toArray, List.set_cons_zero, List.set_cons_succ]
            refine wpX_f _ (.bool false) rfl rfl (fun X _ => by simp [go_sem, x0]) ?_
            simp only [List.getElem_toArray, List.getElem_cons_zero, List.getElem_cons_succ, Act.put, List.setIfInBounds_toArray, List.set_cons_zero, List.set_cons_succ]
            refine wpX_f _ (.bool false) rfl rfl (fun X _ => by simp [go_sem]) ?_
            simp only [List.getElem_toArray, List.getElem_cons_zero, List.getElem_cons_succ, Act.put, List.setIfInBounds_toArray, List.set_cons_zero, List.set_cons_succ]
            refine wpX_f _ (.slice vo k vc) rfl rfl (fun X _ => by simp [go_sem]) ?_
            simp only [List.getElem_toArray, List.getElem_cons_zero, List.getElem_cons_succ, Act.put, List.setIfInBounds_toArray, List.set_cons_zero, List.set_cons_succ]
            refine wpX_call _ rfl rfl (by simp [go_sem]) ((rright_any (.slice vo k vc) k (bP f) wr.drew (hG.out.il fun j _ => bok.out j) hk64.out true (iff_of_true rfl hr.out)).mono ?_)
            rintro e y1 ⟨rfl, hX2⟩
            refine ⟨_, rfl, fun X => Ext y1 X, fun X hX => Ext.trans hX2 hX, Ext.refl _, ?_⟩
            simp only [List.getElem_toArray, List.getElem_cons_zero, List.getElem_cons_succ, Act.put, List.setIfInBounds_toArray, List.set_cons_zero, List.set_cons_succ]
            replace hu := hideit (hu.out.ext hX2)
            replace hG := hideit (hG.out.ext hX2)
            replace hE := hideit (Ext.trans hE.out hX2)

            clear hX2
            refine wpX_f _ (.bool false) rfl rfl (fun X _ => by simp [go_sem]) ?_
            simp only [List.getElem_toArray, List.getElem_cons_zero, List.getElem_cons_succ, Act.put, List.setIfInBounds_toArray, List.set_cons_zero, List.set_cons_succ]
            refine wpX_f _ (.bool false) rfl rfl (fun X _ => by simp [go_sem]) ?_
            simp only [List.getElem_toArray, List.getElem_cons_zero, List.getElem_cons_succ, Act.put, List.setIfInBounds_toArray, List.set_cons_zero, List.set_cons_succ]
            refine wpX_f _ (.bool false) rfl rfl (fun X _ => by simp [go_sem]) ?_
            simp only [List.getElem_toArray, List.getElem_cons_zero, List.getElem_cons_succ, Act.put, List.setIfInBounds_toArray, List.set_cons_zero, List.set_cons_succ]
            refine wpX_f _ (.slice vo k vc) rfl rfl (fun X _ => by simp [go_sem]) ?_
            simp only [List.getElem_toArray, List.getElem_cons_zero, List.getElem_cons_succ, Act.put, List.setIfInBounds_toArray, List.set_cons_zero, List.set_cons_succ]
            refine wpX_f _ (.int .i64 (k : Int)) rfl rfl (fun X _ => by simp [go_sem]) ?_
            simp only [List.getElem_toArray, List.getElem_cons_zero, List.getElem_cons_succ, Act.put, List.setIfInBounds_toArray, List.set_cons_zero, List.set_cons_succ]
            refine wpX_f _ (.int .i64 (c : Int)) rfl rfl (fun X _ => by simp [go_sem]) ?_
            simp only [List.getElem_toArray, List.getElem_cons_zero, List.getElem_cons_succ, Act.put, List.setIfInBounds_toArray, List.set_cons_zero, List.set_cons_succ]
            refine wpX_f _ (.bool true) rfl rfl (fun X _ => by simp [go_sem, kne]) ?_
            simp only [List.getElem_toArray, List.getElem_cons_zero, List.getElem_cons_succ, Act.put, List.setIfInBounds_toArray, List.set_cons_zero, List.set_cons_succ]
            refine wpX_f _ (.bool true) rfl rfl (fun X _ => by simp [go_sem]) ?_
            simp only [List.getElem_toArray, List.getElem_cons_zero, List.getElem_cons_succ, Act.put, List.setIfInBounds_toArray, List.set_cons_zero, List.set_cons_succ]
            refine wpX_f _ (.bool true) rfl rfl (fun X _ => by simp [go_sem]) ?_
            simp only [List.getElem_toArray, List.getElem_cons_zero, List.getElem_cons_succ, Act.put, List.setIfInBounds_toArray, List.set_cons_zero, List.set_cons_succ]
            refine wpX_fskip _ rfl rfl ?_
            simp only [List.getElem_toArray, List.getElem_cons_zero, List.getElem_cons_succ, Act.put, List.setIfInBounds_toArray, List.set_cons_zero, List.set_cons_succ]
            refine wpX_fskip _ rfl rfl ?_
            simp only [List.getElem_toArray, List.getElem_cons_zero, List.getElem_cons_succ, Act.put, List.setIfInBounds_toArray, List.set_cons_zero, List.set_cons_succ]
            refine wpX_fskip _ rfl rfl ?_
            simp only [List.getElem_toArray, List.getElem_cons_zero, List.getElem_cons_succ, Act.put, List.setIfInBounds_toArray, List.set_cons_zero, List.set_cons_succ]
            refine wpX_fskip _ rfl rfl ?_
            simp only [List.getElem_toArray, List.getElem_cons_zero, List.getElem_cons_succ, Act.put, List.setIfInBounds_toArray, List.set_cons_zero, List.set_cons_succ]
            refine wpX_fskip _ rfl rfl ?_
            simp only [List.getElem_toArray, List.getElem_cons_zero, List.getElem_cons_succ, Act.put, List.setIfInBounds_toArray, List.set_cons_zero, List.set_cons_succ]
            refine wpX_fskip _ rfl rfl ?_
            simp only [List.getElem_toArray, List.getElem_cons_zero, List.getElem_cons_succ, Act.put, List.setIfInBounds_toArray, List.set_cons_zero, List.set_cons_succ]
            refine wpX_fskip _ rfl rfl ?_
            simp only [List.getElem_toArray, List.getElem_cons_zero, List.getElem_cons_succ, Act.put, List.setIfInBounds_toArray, List.set_cons_zero, List.set_cons_succ]
            refine wpX_fskip _ rfl rfl ?_
            simp only [List.getElem_toArray, List.getElem_cons_zero, List.getElem_cons_succ, Act.put, List.setIfInBounds_toArray, List.set_cons_zero, List.set_cons_succ]
            refine wpX_fskip _ rfl rfl ?_
            simp only [List.getElem_toArray, List.getElem_cons_zero, List.getElem_cons_succ, Act.put, List.setIfInBounds_toArray, List.set_cons_zero, List.set_cons_succ]
            refine wpX_fskip _ rfl rfl ?_
            simp only [List.getElem_toArray, List.getElem_cons_zero, List.getElem_cons_succ, Act.put, List.setIfInBounds_toArray, List.set_cons_zero, List.set_cons_succ]
            refine wpX_f _ (.bool true) rfl rfl (fun X _ => by simp [go_sem]) ?_
            simp only [List.getElem_toArray, List.getElem_cons_zero, List.getElem_cons_succ, Act.put, List.setIfInBounds_toArray, List.set_cons_zero, List.set_cons_succ]
            refine wpX_f _ (.bool true) rfl rfl (fun X _ => by simp [go_sem]) ?_
            simp only [List.getElem_toArray, List.getElem_cons_zero, List.getElem_cons_succ, Act.put, List.setIfInBounds_toArray, List.set_cons_zero, List.set_cons_succ]
            refine wpX_fskip _ rfl rfl ?_
            simp only [List.getElem_toArray, List.getElem_cons_zero, List.getElem_cons_succ, Act.put, List.setIfInBounds_toArray, List.set_cons_zero, List.set_cons_succ]
            refine wpX_fskip _ rfl rfl ?_
            simp only [List.getElem_toArray, List.getElem_cons_zero, List.getElem_cons_succ, Act.put, List.setIfInBounds_toArray, List.set_cons_zero, List.set_cons_succ]
            refine wpX_fskip _ rfl rfl ?_
            simp only [List.getElem_toArray, List.getElem_cons_zero, List.getElem_cons_succ, Act.put, List.setIfInBounds_toArray, List.set_cons_zero, List.set_cons_succ]
            refine wpX_fskip _ rfl rfl ?_
            simp only [List.getElem_toArray, List.getElem_cons_zero, List.getElem_cons_succ, Act.put, List.setIfInBounds_toArray, List.set_cons_zero, List.set_cons_succ]
            refine wpX_fskip _ rfl rfl ?_
            simp only [List.getElem_toArray, List.getElem_cons_zero, List.getElem_cons_succ, Act.put, List.setIfInBounds_toArray, List.set_cons_zero, List.set_cons_succ]
            refine ⟨_, rfl, .inr ⟨rfl, fun X => Ext y1 X, fun X hX => hX, Ext.refl _, ?_⟩⟩
            simp only [List.getElem_toArray, List.getElem_cons_zero, List.getElem_cons_succ, Act.put, List.setIfInBounds_toArray, List.set_cons_zero, List.set_cons_succ]
            refine wpX_fskip _ rfl rfl ?_
            simp only [List.getElem_toArray, List.getElem_cons_zero, List.getElem_cons_succ, Act.put, List.setIfInBounds_toArray, List.set_cons_zero, List.set_cons_succ]
            refine wpX_fskip _ rfl rfl ?_
            simp only [List.getElem_toArray, List.getElem_cons_zero, List.getElem_cons_succ, Act.put, List.setIfInBounds_toArray, List.set_cons_zero, List.set_cons_succ]
            refine wpX_f _ (.bool true) rfl rfl (fun X _ => by simp [go_sem]) ?_
            simp only [List.getElem_toArray, List.getElem_cons_zero, List.getElem_cons_succ, Act.put, List.setIfInBounds_toArray, List.set_cons_zero, List.set_cons_succ]
            refine wpX_nil ?_
            go_wp2
            refine bodyPost_ret (res4 rfl _ _ _) rfl ?_
            exact ⟨hE.out, .inr ⟨hno.out, rfl⟩⟩
        · have hno : Hid (¬ isPl 512 f) := fun h => by
            have q := hpl.out.1 h
            rcases hmin.out with e | e
            · exact hr (by rw [e]; exact q.2.1)
            · have := q.2.2.1; omega
          replace hr := hideit hr
          by_cases kc : (k : Int) < (c : Int)
          · have k64 : ¬ (k : Int) < 64 := by have := hmin.out; omega
            go_upto_region 6 with (fail)
            refine wp_region_lit ?_
            refine wpList_run rfl (.int .i64 (k : Int)) (by simp [go_sem]) ?_
            simp only [Act.put, List.setIfInBounds_toArray, List.set_cons_zero, List.set_cons_succ]
            refine wpList_run rfl (.int .i64 (c : Int)) (by simp [go_sem]) ?_
            simp only [Act.put, List.setIfInBounds_toArray, List.set_cons_zero, List.set_cons_succ]
            refine wpList_run rfl (.bool true) (by simp [go_sem, kc]) ?_
            simp only [Act.put, List.setIfInBounds_toArray, List.set_cons_zero, List.set_cons_succ]
            refine wpList_run rfl (.bool true) (by simp [go_sem]) ?_
            simp only [Act.put, List.setIfInBounds_toArray, List.set_cons_zero, List.set_cons_succ]
            refine wpList_runW rfl (.int .i64 (k : Int)) (by simp [go_sem]) ?_
            simp only [Act.put, List.setIfInBounds_toArray, List.set_cons_zero, List.set_cons_succ]
            refine wpList_runW rfl (.bool false) (by simp [go_sem, k64]) ?_
            simp only [Act.put, List.setIfInBounds_toArray, List.set_cons_zero, List.set_cons_succ]
            refine wpList_run rfl (.bool false) (by simp [go_sem]) ?_
            simp only [Act.put, List.setIfInBounds_toArray, List.set_cons_zero, List.set_cons_succ]
            go_upto_region 9 with (fail)
            replace hu := hideit (hu.out.ext (Ext.draw (Ext.refl wr)))
            replace hG := hideit (hG.out.ext (Ext.draw (Ext.refl wr)))
            replace hE := hideit (Ext.draw hE.out)
            refine wp_region_lad (fun X => Ext wr.drew X) [(false, 0), (false, 1), (false, 2), (false, 3), (true, 4), (false, 5), (false, 6), (false, 7), (false, 8), (false, 9), (false, 10), (false, 11), (false, 12), (false, 13), (false, 14), (false, 15), (false, 16), (false, 17), (false, 18), (false, 19), (false, 20), (false, 21), (false, 22), (false, 23), (false, 24), (false, 25), (false, 26), (false, 27), (false, 28), (false, 31), (false, 32), (true, 29), (false, 30), (false, 33), (false, 34)] (by kernel_rfl) (by kernel_rfl) (by decide +kernel) (by decide +kernel) (by decide +kernel) (by decide +kernel) (Ext.refl _) ?_
            refine wpX_f _ (.int .u64 (x.toNat : Int)) rfl rfl (fun X _ => by simp [go_sem]) ?_
            simp only [List.getElem_toArray, List.getElem_cons_zero, Act.put, List.setIfInBounds_toArray, List.set_cons_zero, List.set_cons_succ]
            refine wpX_f _ (.bool false) rfl rfl (fun X _ => by simp [go_sem, x0]) ?_
            simp only [List.getElem_toArray, List.getElem_cons_zero, List.getElem_cons_succ, Act.put, List.setIfInBounds_toArray, List.set_cons_zero, List.set_cons_succ]
            refine wpX_f _ (.bool false) rfl rfl (fun X _ => by simp [go_sem]) ?_
            simp only [List.getElem_toArray, List.getElem_cons_zero, List.getElem_cons_succ, Act.put, List.setIfInBounds_toArray, List.set_cons_zero, List.set_cons_succ]
            refine wpX_f _ (.slice vo k vc) rfl rfl (fun X _ => by simp [go_sem]) ?_
            simp only [List.getElem_toArray, List.getElem_cons_zero, List.getElem_cons_succ, Act.put, List.setIfInBounds_toArray, List.set_cons_zero, List.set_cons_succ]
            refine wpX_call _ rfl rfl (by simp [go_sem]) ((rright_any (.slice vo k vc) k (bP f) wr.drew (hG.out.il fun j _ => bok.out j) hk64.out false (iff_of_false (by decide) hr.out)).mono ?_)
            rintro e y1 ⟨rfl, hX2⟩
            refine ⟨_, rfl, fun X => Ext y1 X, fun X hX => Ext.trans hX2 hX, Ext.refl _, ?_⟩
            simp only [List.getElem_toArray, List.getElem_cons_zero, List.getElem_cons_succ, Act.put, List.setIfInBounds_toArray, List.set_cons_zero, List.set_cons_succ]
            replace hu := hideit (hu.out.ext hX2)
            replace hG := hideit (hG.out.ext hX2)
            replace hE := hideit (Ext.trans hE.out hX2)

            clear hX2
            refine wpX_f _ (.bool true) rfl rfl (fun X _ => by simp [go_sem]) ?_
            simp only [List.getElem_toArray, List.getElem_cons_zero, List.getElem_cons_succ, Act.put, List.setIfInBounds_toArray, List.set_cons_zero, List.set_cons_succ]
            refine wpX_f _ (.bool true) rfl rfl (fun X _ => by simp [go_sem]) ?_
            simp only [List.getElem_toArray, List.getElem_cons_zero, List.getElem_cons_succ, Act.put, List.setIfInBounds_toArray, List.set_cons_zero, List.set_cons_succ]
            refine wpX_f _ (.bool true) rfl rfl (fun X _ => by simp [go_sem]) ?_
            simp only [List.getElem_toArray, List.getElem_cons_zero, List.getElem_cons_succ, Act.put, List.setIfInBounds_toArray, List.set_cons_zero, List.set_cons_succ]
            refine wpX_fskip _ rfl rfl ?_
            simp only [List.getElem_toArray, List.getElem_cons_zero, List.getElem_cons_succ, Act.put, List.setIfInBounds_toArray, List.set_cons_zero, List.set_cons_succ]
            refine wpX_fskip _ rfl rfl ?_
            simp only [List.getElem_toArray, List.getElem_cons_zero, List.getElem_cons_succ, Act.put, List.setIfInBounds_toArray, List.set_cons_zero, List.set_cons_succ]
            refine wpX_fskip _ rfl rfl ?_
            simp only [List.getElem_toArray, List.getElem_cons_zero, List.getElem_cons_succ, Act.put, List.setIfInBounds_toArray, List.set_cons_zero, List.set_cons_succ]
            refine wpX_fskip _ rfl rfl ?_
            simp only [List.getElem_toArray, List.getElem_cons_zero, List.getElem_cons_succ, Act.put, List.setIfInBounds_toArray, List.set_cons_zero, List.set_cons_succ]
            refine wpX_f _ (.bool true) rfl rfl (fun X _ => by simp [go_sem]) ?_
            simp only [List.getElem_toArray, List.getElem_cons_zero, List.getElem_cons_succ, Act.put, List.setIfInBounds_toArray, List.set_cons_zero, List.set_cons_succ]
            refine wpX_f _ (.bool true) rfl rfl (fun X _ => by simp [go_sem]) ?_
            simp only [List.getElem_toArray, List.getElem_cons_zero, List.getElem_cons_succ, Act.put, List.setIfInBounds_toArray, List.set_cons_zero, List.set_cons_succ]
            refine wpX_fskip _ rfl rfl ?_
            simp only [List.getElem_toArray, List.getElem_cons_zero, List.getElem_cons_succ, Act.put, List.setIfInBounds_toArray, List.set_cons_zero, List.set_cons_succ]
            refine wpX_fskip _ rfl rfl ?_
            simp only [List.getElem_toArray, List.getElem_cons_zero, List.getElem_cons_succ, Act.put, List.setIfInBounds_toArray, List.set_cons_zero, List.set_cons_succ]
            refine wpX_fskip _ rfl rfl ?_
            simp only [List.getElem_toArray, List.getElem_cons_zero, List.getElem_cons_succ, Act.put, List.setIfInBounds_toArray, List.set_cons_zero, List.set_cons_succ]
            refine wpX_fskip _ rfl rfl ?_
            simp only [List.getElem_toArray, List.getElem_cons_zero, List.getElem_cons_succ, Act.put, List.setIfInBounds_toArray, List.set_cons_zero, List.set_cons_succ]
            refine wpX_fskip _ rfl rfl ?_
            simp only [List.getElem_toArray, List.getElem_cons_zero, List.getElem_cons_succ, Act.put, List.setIfInBounds_toArray, List.set_cons_zero, List.set_cons_succ]
            refine wpX_fskip _ rfl rfl ?_
            simp only [List.getElem_toArray, List.getElem_cons_zero, List.getElem_cons_succ, Act.put, List.setIfInBounds_toArray, List.set_cons_zero, List.set_cons_succ]
            refine wpX_fskip _ rfl rfl ?_
            simp only [List.getElem_toArray, List.getElem_cons_zero, List.getElem_cons_succ, Act.put, List.setIfInBounds_toArray, List.set_cons_zero, List.set_cons_succ]
            refine wpX_fskip _ rfl rfl ?_
            simp only [List.getElem_toArray, List.getElem_cons_zero, List.getElem_cons_succ, Act.put, List.setIfInBounds_toArray, List.set_cons_zero, List.set_cons_succ]
            refine wpX_fskip _ rfl rfl ?_
            simp only [List.getElem_toArray, List.getElem_cons_zero, List.getElem_cons_succ, Act.put, List.setIfInBounds_toArray, List.set_cons_zero, List.set_cons_succ]
            refine wpX_fskip _ rfl rfl ?_
            simp only [List.getElem_toArray, List.getElem_cons_zero, List.getElem_cons_succ, Act.put, List.setIfInBounds_toArray, List.set_cons_zero, List.set_cons_succ]
            refine wpX_f _ (.bool true) rfl rfl (fun X _ => by simp [go_sem]) ?_
            simp only [List.getElem_toArray, List.getElem_cons_zero, List.getElem_cons_succ, Act.put, List.setIfInBounds_toArray, List.set_cons_zero, List.set_cons_succ]
            refine wpX_f _ (.bool true) rfl rfl (fun X _ => by simp [go_sem]) ?_
            simp only [List.getElem_toArray, List.getElem_cons_zero, List.getElem_cons_succ, Act.put, List.setIfInBounds_toArray, List.set_cons_zero, List.set_cons_succ]
            refine wpX_fskip _ rfl rfl ?_
            simp only [List.getElem_toArray, List.getElem_cons_zero, List.getElem_cons_succ, Act.put, List.setIfInBounds_toArray, List.set_cons_zero, List.set_cons_succ]
            refine wpX_fskip _ rfl rfl ?_
            simp only [List.getElem_toArray, List.getElem_cons_zero, List.getElem_cons_succ, Act.put, List.setIfInBounds_toArray, List.set_cons_zero, List.set_cons_succ]
            refine wpX_fskip _ rfl rfl ?_
            simp only [List.getElem_toArray, List.getElem_cons_zero, List.getElem_cons_succ, Act.put, List.setIfInBounds_toArray, List.set_cons_zero, List.set_cons_succ]
            refine wpX_fskip _ rfl rfl ?_
            simp only [List.getElem_toArray, List.getElem_cons_zero, List.getElem_cons_succ, Act.put, List.setIfInBounds_toArray, List.set_cons_zero, List.set_cons_succ]
            refine wpX_fskip _ rfl rfl ?_
            simp only [List.getElem_toArray, List.getElem_cons_zero, List.getElem_cons_succ, Act.put, List.setIfInBounds_toArray, List.set_cons_zero, List.set_cons_succ]
            refine ⟨_, rfl, .inr ⟨rfl, fun X => Ext y1 X, fun X hX => hX, Ext.refl _, ?_⟩⟩
            simp only [List.getElem_toArray, List.getElem_cons_zero, List.getElem_cons_succ, Act.put, List.setIfInBounds_toArray, List.set_cons_zero, List.set_cons_succ]
            refine wpX_fskip _ rfl rfl ?_
            simp only [List.getElem_toArray, List.getElem_cons_zero, List.getElem_cons_succ, Act.put, List.setIfInBounds_toArray, List.set_cons_zero, List.set_cons_succ]
            refine wpX_fskip _ rfl rfl ?_
            simp only [List.getElem_toArray, List.getElem_cons_zero, List.getElem_cons_succ, Act.put, List.setIfInBounds_toArray, List.set_cons_zero, List.set_cons_succ]
            refine wpX_f _ (.bool true) rfl rfl (fun X _ => by simp [go_sem]) ?_
            simp only [List.getElem_toArray, List.getElem_cons_zero, List.getElem_cons_succ, Act.put, List.setIfInBounds_toArray, List.set_cons_zero, List.set_cons_succ]
            refine wpX_nil ?_
            go_wp2
            refine bodyPost_ret (res4 rfl _ _ _) rfl ?_
            exact ⟨hE.out, .inr ⟨hno.out, rfl⟩⟩
          · have k64 : True := trivial
            go_upto_region 6 with (fail)
            refine wp_region_lit ?_
            refine wpList_run rfl (.int .i64 (k : Int)) (by simp [go_sem]) ?_
            simp only [Act.put, List.setIfInBounds_toArray, List.set_cons_zero, List.set_cons_succ]
            refine wpList_run rfl (.int .i64 (c : Int)) (by simp [go_sem]) ?_
            simp only [Act.put, List.setIfInBounds_toArray, List.set_cons_zero, List.set_cons_succ]
            refine wpList_run rfl (.bool false) (by simp [go_sem, kc]) ?_
            simp only [Act.put, List.setIfInBounds_toArray, List.set_cons_zero, List.set_cons_succ]
            refine wpList_run rfl (.bool false) (by simp [go_sem]) ?_
            simp only [Act.put, List.setIfInBounds_toArray, List.set_cons_zero, List.set_cons_succ]
            with_reducible refine xnot (by with_unfolding_all rfl) ?_
            simp only [Act.put, List.setIfInBounds_toArray, List.set_cons_zero, List.set_cons_succ]
            with_reducible refine xnot (by with_unfolding_all rfl) ?_
            simp only [Act.put, List.setIfInBounds_toArray, List.set_cons_zero, List.set_cons_succ]
            refine wpList_run rfl (.bool false) (by simp [go_sem]) ?_
            simp only [Act.put, List.setIfInBounds_toArray, List.set_cons_zero, List.set_cons_succ]
            go_upto_region 9 with (fail)
            replace hu := hideit (hu.out.ext (Ext.draw (Ext.refl wr)))
            replace hG := hideit (hG.out.ext (Ext.draw (Ext.refl wr)))
            replace hE := hideit (Ext.draw hE.out)
            refine wp_region_lad (fun X => Ext wr.drew X) [(false, 0), (false, 1), (false, 2), (false, 3), (true, 4), (false, 5), (false, 6), (false, 7), (false, 8), (false, 9), (false, 10), (false, 11), (false, 12), (false, 13), (false, 14), (false, 15), (false, 16), (false, 17), (false, 18), (false, 19), (false, 20), (false, 21), (false, 22), (false, 23), (false, 24), (false, 25), (false, 26), (false, 27), (false, 28), (false, 31), (false, 32), (true, 29), (false, 30), (false, 33), (false, 34)] (by kernel_rfl) (by kernel_rfl) (by decide +kernel) (by decide +kernel) (by decide +kernel) (by decide +kernel) (Ext.refl _) ?_
            refine wpX_f _ (.int .u64 (x.toNat : Int)) rfl rfl (fun X _ => by simp [go_sem]) ?_
            simp only [List.getElem_toArray, List.getElem_cons_zero, Act.put, List.setIfInBounds_toArray, List.set_cons_zero, List.set_cons_succ]
            refine wpX_f _ (.bool false) rfl rfl (fun X _ => by simp [go_sem, x0]) ?_
            simp only [List.getElem_toArray, List.getElem_cons_zero, List.getElem_cons_succ, Act.put, List.setIfInBounds_toArray, List.set_cons_zero, List.set_cons_succ]
            refine wpX_f _ (.bool false) rfl rfl (fun X _ => by simp [go_sem]) ?_
            simp only [List.getElem_toArray, List.getElem_cons_zero, List.getElem_cons_succ, Act.put, List.setIfInBounds_toArray, List.set_cons_zero, List.set_cons_succ]
            refine wpX_f _ (.slice vo k vc) rfl rfl (fun X _ => by simp [go_sem]) ?_
            simp only [List.getElem_toArray, List.getElem_cons_zero, List.getElem_cons_succ, Act.put, List.setIfInBounds_toArray, List.set_cons_zero, List.set_cons_succ]
            refine wpX_call _ rfl rfl (by simp [go_sem]) ((rright_any (.slice vo k vc) k (bP f) wr.drew (hG.out.il fun j _ => bok.out j) hk64.out false (iff_of_false (by decide) hr.out)).mono ?_)
            rintro e y1 ⟨rfl, hX2⟩
            refine ⟨_, rfl, fun X => Ext y1 X, fun X hX => Ext.trans hX2 hX, Ext.refl _, ?_⟩
            simp only [List.getElem_toArray, List.getElem_cons_zero, List.getElem_cons_succ, Act.put, List.setIfInBounds_toArray, List.set_cons_zero, List.set_cons_succ]
            replace hu := hideit (hu.out.ext hX2)
            replace hG := hideit (hG.out.ext hX2)
            replace hE := hideit (Ext.trans hE.out hX2)

            clear hX2
            refine wpX_f _ (.bool true) rfl rfl (fun X _ => by simp [go_sem]) ?_
            simp only [List.getElem_toArray, List.getElem_cons_zero, List.getElem_cons_succ, Act.put, List.setIfInBounds_toArray, List.set_cons_zero, List.set_cons_succ]
            refine wpX_f _ (.bool true) rfl rfl (fun X _ => by simp [go_sem]) ?_
            simp only [List.getElem_toArray, List.getElem_cons_zero, List.getElem_cons_succ, Act.put, List.setIfInBounds_toArray, List.set_cons_zero, List.set_cons_succ]
            refine wpX_f _ (.bool true) rfl rfl (fun X _ => by simp [go_sem]) ?_
            simp only [List.getElem_toArray, List.getElem_cons_zero, List.getElem_cons_succ, Act.put, List.setIfInBounds_toArray, List.set_cons_zero, List.set_cons_succ]
            refine wpX_fskip _ rfl rfl ?_
            simp only [List.getElem_toArray, List.getElem_cons_zero, List.getElem_cons_succ, Act.put, List.setIfInBounds_toArray, List.set_cons_zero, List.set_cons_succ]
            refine wpX_fskip _ rfl rfl ?_
            simp only [List.getElem_toArray, List.getElem_cons_zero, List.getElem_cons_succ, Act.put, List.setIfInBounds_toArray, List.set_cons_zero, List.set_cons_succ]
            refine wpX_fskip _ rfl rfl ?_
            simp only [List.getElem_toArray, List.getElem_cons_zero, List.getElem_cons_succ, Act.put, List.setIfInBounds_toArray, List.set_cons_zero, List.set_cons_succ]
            refine wpX_fskip _ rfl rfl ?_
            simp only [List.getElem_toArray, List.getElem_cons_zero, List.getElem_cons_succ, Act.put, List.setIfInBounds_toArray, List.set_cons_zero, List.set_cons_succ]
            refine wpX_f _ (.bool true) rfl rfl (fun X _ => by simp [go_sem]) ?_
            simp only [List.getElem_toArray, List.getElem_cons_zero, List.getElem_cons_succ, Act.put, List.setIfInBounds_toArray, List.set_cons_zero, List.set_cons_succ]
            refine wpX_f _ (.bool true) rfl rfl (fun X _ => by simp [go_sem]) ?_
            simp only [List.getElem_toArray, List.getElem_cons_zero, List.getElem_cons_succ, Act.put, List.setIfInBounds_toArray, List.set_cons_zero, List.set_cons_succ]
            refine wpX_fskip _ rfl rfl ?_
            simp only [List.getElem_toArray, List.getElem_cons_zero, List.getElem_cons_succ, Act.put, List.setIfInBounds_toArray, List.set_cons_zero, List.set_cons_succ]
            refine wpX_fskip _ rfl rfl ?_
            simp only [List.getElem_toArray, List.getElem_cons_zero, List.getElem_cons_succ, Act.put, List.setIfInBounds_toArray, List.set_cons_zero, List.set_cons_succ]
            refine wpX_fskip _ rfl rfl ?_
            simp only [List.getElem_toArray, List.getElem_cons_zero, List.getElem_cons_succ, Act.put, List.setIfInBounds_toArray, List.set_cons_zero, List.set_cons_succ]
            refine wpX_fskip _ rfl rfl ?_
            simp only [List.getElem_toArray, List.getElem_cons_zero, List.getElem_cons_succ, Act.put, List.setIfInBounds_toArray, List.set_cons_zero, List.set_cons_succ]
            refine wpX_fskip _ rfl rfl ?_
            simp only [List.getElem_toArray, List.getElem_cons_zero, List.getElem_cons_succ, Act.put, List.setIfInBounds_toArray, List.set_cons_zero, List.set_cons_succ]
            refine wpX_fskip _ rfl rfl ?_
            simp only [List.getElem_toArray, List.getElem_cons_zero, List.getElem_cons_succ, Act.put, List.setIfInBounds_toArray, List.set_cons_zero, List.set_cons_succ]
            refine wpX_fskip _ rfl rfl ?_
            simp only [List.getElem_toArray, List.getElem_cons_zero, List.getElem_cons_succ, Act.put, List.setIfInBounds_toArray, List.set_cons_zero, List.set_cons_succ]
            refine wpX_fskip _ rfl rfl ?_
            simp only [List.getElem_toArray, List.getElem_cons_zero, List.getElem_cons_succ, Act.put, List.setIfInBounds_toArray, List.set_cons_zero, List.set_cons_succ]
            refine wpX_fskip _ rfl rfl ?_
            simp only [List.getElem_toArray, List.getElem_cons_zero, List.getElem_cons_succ, Act.put, List.setIfInBounds_toArray, List.set_cons_zero, List.set_cons_succ]
            refine wpX_fskip _ rfl rfl ?_
            simp only [List.getElem_toArray, List.getElem_cons_zero, List.getElem_cons_succ, Act.put, List.setIfInBounds_toArray, List.set_cons_zero, List.set_cons_succ]
            refine wpX_f _ (.bool true) rfl rfl (fun X _ => by simp [go_sem]) ?_
            simp only [List.getElem_toArray, List.getElem_cons_zero, List.getElem_cons_succ, Act.put, List.setIfInBounds_toArray, List.set_cons_zero, List.set_cons_succ]
            refine wpX_f _ (.bool true) rfl rfl (fun X _ => by simp [go_sem]) ?_
            simp only [List.getElem_toArray, List.getElem_cons_zero, List.getElem_cons_succ, Act.put, List.setIfInBounds_toArray, List.set_cons_zero, List.set_cons_succ]
            refine wpX_fskip _ rfl rfl ?_
            simp only [List.getElem_toArray, List.getElem_cons_zero, List.getElem_cons_succ, Act.put, List.setIfInBounds_toArray, List.set_cons_zero, List.set_cons_succ]
            refine wpX_fskip _ rfl rfl ?_
            simp only [List.getElem_toArray, List.getElem_cons_zero, List.getElem_cons_succ, Act.put, List.setIfInBounds_toArray, List.set_cons_zero, List.set_cons_succ]
            refine wpX_fskip _ rfl rfl ?_
            simp only [List.getElem_toArray, List.getElem_cons_zero, List.getElem_cons_succ, Act.put, List.setIfInBounds_toArray, List.set_cons_zero, List.set_cons_succ]
            refine wpX_fskip _ rfl rfl ?_
            simp only [List.getElem_toArray, List.getElem_cons_zero, List.getElem_cons_succ, Act.put, List.setIfInBounds_toArray, List.set_cons_zero, List.set_cons_succ]
            refine wpX_fskip _ rfl rfl ?_
            simp only [List.getElem_toArray, List.getElem_cons_zero, List.getElem_cons_succ, Act.put, List.setIfInBounds_toArray, List.set_cons_zero, List.set_cons_succ]
            refine ⟨_, rfl, .inr ⟨rfl, fun X => Ext y1 X, fun X hX => hX, Ext.refl _, ?_⟩⟩
            simp only [List.getElem_toArray, List.getElem_cons_zero, List.getElem_cons_succ, Act.put, List.setIfInBounds_toArray, List.set_cons_zero, List.set_cons_succ]
            refine wpX_fskip _ rfl rfl ?_
            simp only [List.getElem_toArray, List.getElem_cons_zero, List.getElem_cons_succ, Act.put, List.setIfInBounds_toArray, List.set_cons_zero, List.set_cons_succ]
            refine wpX_fskip _ rfl rfl ?_
            simp only [List.getElem_toArray, List.getElem_cons_zero, List.getElem_cons_succ, Act.put, List.setIfInBounds_toArray, List.set_cons_zero, List.set_cons_succ]
            refine wpX_f _ (.bool true) rfl rfl (fun X _ => by simp [go_sem]) ?_
            simp only [List.getElem_toArray, List.getElem_cons_zero, List.getElem_cons_succ, Act.put, List.setIfInBounds_toArray, List.set_cons_zero, List.set_cons_succ]
            refine wpX_nil ?_
            go_wp2
            refine bodyPost_ret (res4 rfl _ _ _) rfl ?_
            exact ⟨hE.out, .inr ⟨hno.out, rfl⟩⟩
end Go.Proofs.YtedgopionpdfeaaDoor
