/-
  append(s, make([]T, m)...): zeros behind a row of one's own; no word of the program. The document's block of a header.
-/
import Derived.Test.YtenlokmoijeehaaDoorGg
import Derived.Test.YtenlokmoijeehaaDoorGu
import Derived.Test.YtenlokmoijeehaaDoorGt
import Derived.OrdersHeld
import Derived.ArgAppend
namespace Go.Proofs.YtenlokmoijeehaaDoor
open Go.RowKit Go.BigFrame
theorem zeroCells_one (zv : Value) (m : Nat) : Builtin.zeroCells #[zv] m = (row m fun _ => zv).toArray := by
  apply Array.ext'
  simp only [Builtin.zeroCells, row]
  apply List.ext_getElem?
  intro i
  by_cases h : i < m
  · simp [h, Nat.mod_one]
  · simp [h]
section
variable {P : Program} (w : World)
theorem run_zeros (base : Nat) (t u ty e : TypeId) (i : TypeInfo) (z zv : Value) (ht : P.underlying t = some (.slice e)) (hu : P.underlying u = some (.int .i64)) (hi : P.info? e = some i) (hz : i.zero = some z)
    (hsize : i.size = 1) (hby : i.bytes = 1) (hzc : z.cells = #[zv]) (h1 : zv.oneCell' = true)
    (g n cap : Nat) (xs : List Value) (hown : w.ownsRow base e 1 (.slice (some ⟨g, 0, none⟩) n cap) n xs) (m : Nat) (hm : 0 < m)
    (hbytes : n + m ≤ 140737488355328) (hbase : base ≤ w.heap.size) :
    ∃ v' w', (Builtin.append_ #[t, u] ty #[.slice (some ⟨g, 0, none⟩) n cap, .int .i64 (m : Int)]).run P w = .ok v' w' ∧ w'.ownsRow base e 1 v' (n + m) (xs ++ row m fun _ => zv) ∧ w.grownBy w' (some g) := by
  have h63 : n + m ≤ maxLen := by unfold maxLen; omega
  have hlr : (row m fun _ => zv).length = m := row_length _ _
  have hlen : (xs ++ row m fun _ => zv).length = (n + m) * 1 := by rw [List.length_append, hown.1, hlr, Nat.mul_one, Nat.mul_one]
  have hzs : z.cells.size = 1 := by rw [hzc]; rfl
  have hwr : IntKind.i64.wrap (m : Int) = (m : Int) := by rw [IntKind.wrap_i64]; omega
  have hneg : ¬ ((m : Int) < 0) := by omega
  have h48 : ¬ (281474976710656 < (m : Int)) := by omega
  have hm0 : ¬ (m = 0) := by omega
  have hall : ∀ u ∈ (row m fun _ => zv), u.oneCell' = true := fun u hu => by
    obtain ⟨j, _, rfl⟩ := List.mem_map.1 hu
    exact h1
  have hzz := zeroCells_one zv m
  rcases hown.2 with ⟨h, _⟩ | ⟨g', cap', cur, h, hbg, hg, hnc, hcm, hcs, htake⟩
  · cases h
  · injection h with e1 _ e3
    injection e1 with e1
    injection e1 with e1
    subst e1
    subst e3
    by_cases hroom : n + m ≤ cap
    · have hfit : n * i.size + (row m fun _ => zv).length ≤ cur.size := by rw [hsize, hlr, hcs]; omega
      have hst := run_storeCells_at P g (n * i.size) e (row m fun _ => zv) 0 cur w hg (by simpa using hfit) hall
      simp only [Nat.add_zero] at hst
      have hr : (Builtin.append_ #[t, u] ty #[.slice (some ⟨g, 0, none⟩) n cap, .int .i64 (m : Int)]).run P w = .ok (.slice (some ⟨g, 0, none⟩) (n + m) cap) (w.setRow g (cur.toList.take (n * i.size) ++ (row m fun _ => zv) ++ cur.toList.drop (n * i.size + (row m fun _ => zv).length)).toArray) := by
        simp only [hsize, Nat.mul_one, List.append_assoc] at hst ⊢
        simp [Builtin.append_, run_underlying ht, run_underlying hu, sizeOf, typeInfo, zeroValue, hi, hz, asInt, asIntOf, hwr, hneg, h48, hby, hsize, hm0, hzc, hzz, hroom, Addr.add_lit, hst]
      refine ⟨_, _, hr, ⟨hlen, .inr ⟨g, cap, _, rfl, hbg, setRow_heap w g cur _ e _ hg, hroom, hcm, ?_, ?_⟩⟩, ⟨rfl, rfl, rfl, by simp, fun k _ hk => setRow_other w g k _ (fun e => hk (by simp [e]))⟩⟩
      · simp only [List.size_toArray, List.length_append, List.length_take, List.length_drop, Array.length_toList]
        omega
      · rw [hsize, htake, ← hlen]
        exact List.take_left
    · have holds : ∀ j u, xs[j]? = some u → w.cell? ((⟨g, 0, none⟩ : Addr).add j) = some u := hown.cells (g := g) rfl
      have h63' : ¬ (9223372036854775807 < ((n : Int) + (m : Int))) := by omega
      have hfits := growslice_fits (need := n + m) (old := cap) (bytes := 1) (by omega) (by omega)
      have h48' : ¬ (281474976710656 < Builtin.nextslicecap (n + m) cap) := by omega
      have hfo := run_firstCells_some (P := P) w.drew 1 n ⟨g, 0, none⟩ n cap xs hown.1 (by simpa using holds)
      have hr : (Builtin.append_ #[t, u] ty #[.slice (some ⟨g, 0, none⟩) n cap, .int .i64 (m : Int)]).run P w = .ok (.slice (some ⟨w.heap.size, 0, none⟩) (n + m) (grownCap w (n + m) cap e)) (w.drew.alloc (.cells (xs.toArray ++ (row m fun _ => zv).toArray ++ Builtin.zeroCells #[zv] (grownCap w (n + m) cap e - (n + m))) e)) := by
        simp [Builtin.append_, run_underlying ht, run_underlying hu, sizeOf, typeInfo, zeroValue, hi, hz, asInt, asIntOf, hwr, hneg, h48, hby, hsize, hm0, hzc, hzz, hroom, h63', h48', Question.forced, hfo, newRow, grownCap]
        congr 2
        apply Array.ext'
        simp [List.append_assoc]
      have hge := grownCap_ge w (n + m) cap e
      have hcm' : grownCap w (n + m) cap e ≤ maxLen := grownCap_le_maxLen w (n + m) cap e h63
      refine ⟨_, _, hr, ⟨hlen, .inr ⟨w.heap.size, _, _, rfl, hbase, heap_alloc_new w.drew _, hge, hcm', ?_, ?_⟩⟩, ⟨rfl, rfl, rfl, by simp, fun k hk _ => heap_alloc_old w.drew _ (by exact hk)⟩⟩
      · have h2 : (Builtin.zeroCells #[zv] (grownCap w (n + m) cap e - (n + m))).size = grownCap w (n + m) cap e - (n + m) := by rw [size_zeroCells]; simp
        simp only [Array.size_append, List.size_toArray, h2, hown.1, hlr]
        omega
      · simp only [Array.toList_append, List.append_assoc]
        rw [← List.append_assoc, ← hlen]
        exact List.take_left
theorem wpList_zeros {ops : Array Oper} {rest : List Oper} {o : Oper} {a : Act} {Q : Exit → Act → World → Prop} {t u e : TypeId} {base n : Nat} {v : Value} {g f : Nat → Value} (zv : Value) (i : TypeInfo) (z : Value) (ht : P.underlying t = some (.slice e)) (hu : P.underlying u = some (.int .i64)) (hi : P.info? e = some i) (hz : i.zero = some z)
    (hsize : i.size = 1) (hby : i.bytes = 1) (hzc : z.cells = #[zv]) (h1 : zv.oneCell' = true) (hgd : o.guard = none) (s x : Operand)
    (ho : o.op = .call { callee := .builtin .append, args := #[s, x], argTypes := #[t, u] }) (hs : a.eval s = v) (hown : OwnB base e v n g w) (hn : 0 < n) (m : Nat) (hm : 0 < m) (hx : a.eval x = .int .i64 (m : Int))
    (hf1 : ∀ j, j < n → g j = f j) (hf2 : ∀ j, j < m → zv = f (n + j)) (hbytes : n + m ≤ 140737488355328) (hbase : base ≤ w.heap.size)
    (h : ∀ v' w', OwnB base e v' (n + m) f w' → w.grownBy w' v.ownBlock → wpList P ops Q rest (a.put o.dst v') w') : wpList P ops Q (o :: rest) a w := by
  obtain ⟨b, cap, rfl, _⟩ := hown.lies hn
  refine wpList_plain hgd fun K hK => ?_
  obtain ⟨v', w', hr, h2, h3⟩ := run_zeros (P := P) w base t u o.type e i z zv ht hu hi hz hsize hby hzc h1 b n cap (row n g) hown m hm hbytes hbase
  unfold Oper.wp execOp
  simp only [ho, resolve, invoke, builtin, Sem.run_bind, Sem.run_pure, Result.andThen_ok, List.map_toArray, List.map_cons, List.map_nil, hs, hx, hr]
  refine hK _ _ (h v' w' ?_ h3)
  unfold OwnB
  rwa [row_append n m g (fun _ => zv) f hf1 hf2] at h2
end
end Go.Proofs.YtenlokmoijeehaaDoor
namespace Go.Proofs.YtenlokmoijeehaaDoor
open Go.RowKit Go.BigFrame
theorem exec_append {P : Program} {o : Oper} {a : Act} {w w' : World} (s x : Operand) (t u : TypeId) (ho : o.op = .call { callee := .builtin .append, args := #[s, x], argTypes := #[t, u] }) (v y v' : Value) (hs : a.eval s = v) (hx : a.eval x = y) (hr : (Builtin.append_ #[t, u] o.type #[v, y]).run P w = .ok v' w') : (execOp a.eval o).run P w = .ok (.value v') w' := by
  unfold execOp
  simp only [ho, resolve, invoke, builtin, Sem.run_bind, Sem.run_pure, Result.andThen_ok, List.map_toArray, List.map_cons, List.map_nil, hs, hx, hr]
theorem run_growB {w : World} {base n : Nat} {v : Value} {f : Nat → BitVec 8} (ty : TypeId) (h : OwnB base 5 v n (yv f) w) (ad : Addr) (m c : Nat) (b : Nat → BitVec 8) (hb : LieAt ad m (yv b) w) (hnm : n + m ≤ 1000000) (hbase : base ≤ w.heap.size) :
    ∃ v' w', (Builtin.append_ #[28, 28] ty #[v, .slice (some ad) m c]).run Tryd.prog w = .ok v' w' ∧ OwnB base 5 v' (n + m) (yv (catF f n b)) w' ∧ w.grownBy w' v.ownBlock := by
  obtain ⟨i, z, e1, e2, e3, e4, e5⟩ := elem22.info
  obtain ⟨v', w', h1, h2, h3, _⟩ := run_append_own (P := Tryd.prog) w base 28 ty 5 i z 1 1 elem22.slice e1 e2 e3 e4 e5 (by decide) v n (row n (yv f)) h ad m c (row m (yv b)) (by rw [row_length, Nat.mul_one]) (fun j u hj => by
    obtain ⟨hj', rfl⟩ := row_some hj
    exact hb.1 j hj') (fun u hu => by
    obtain ⟨j, _, rfl⟩ := List.mem_map.1 hu
    rfl) (by unfold maxLen; omega) (by omega) hbase
  refine ⟨v', w', h1, ?_, h3⟩
  unfold OwnB
  rw [row_append n m (yv f) (yv b) (yv (catF f n b)) (fun j hj => by simp only [yv]; unfold catF; rw [if_pos hj]) (fun j hj => by simp only [yv]; unfold catF; rw [if_neg (by omega), Nat.add_sub_cancel_left])] at h2
  exact h2
theorem wpOp_to {P : Program} {ops : Array Oper} {Q : Exit → Act → World → Prop} {i : Nat} {K : Act → World → Prop} {a : Act} {w : World} {o : Oper} (ho : ops[i]? = some o) (hw : Region.wanted o (yielded ops a.tmps) = true) (v : Value) (w' : World) (hr : (execOp a.eval o).run P w = .ok (.value v) w') (h : K (a.put o.dst v) w') : wpOp P ops Q i K a w :=
  EffY.wpOp (R := fun u X => K (a.put o.dst u) X) ho (.inl ⟨hw, by rw [hr]; exact h⟩) fun _ _ h => h
theorem wpOp_call {P : Program} {ops : Array Oper} {Q : Exit → Act → World → Prop} {i : Nat} {K : Act → World → Prop} {a : Act} {w : World} {o : Oper} {f : FuncId} {args : Array Value} (ho : ops[i]? = some o) (hw : Region.wanted o (yielded ops a.tmps) = true) (hr : (execOp a.eval o).run P w = .ok (.enter f args) w)
    (hc : Calls P f args w fun e w' => ∃ v, e = .returned v ∧ K (a.put o.dst v) w') : wpOp P ops Q i K a w :=
  EffY.wpOp (R := fun u X => K (a.put o.dst u) X) ho (.inl ⟨hw, by rw [hr]; exact hc⟩) fun _ _ h => h
theorem lie_grown {ad : Addr} {m : Nat} {u : Nat → Value} {X Y : World} {row : Option Nat} (h : LieAt ad m u X) (hg : X.grownBy Y row) (hne : ∀ k, row = some k → ad.block ≠ k) : LieAt ad m u Y :=
  ⟨fun j hj => (World.cell?_of_block (a := ad.add j) (by rw [add_block]; exact hg.block ad.block h.2 (fun e => hne _ e.symm rfl))).trans (h.1 j hj), Nat.lt_of_lt_of_le h.2 hg.size⟩
theorem own_row (w : World) (base : Nat) (e : TypeId) (n : Nat) (g : Nat → Value) (hb : base ≤ w.heap.size) (hn : n ≤ 1000000) : OwnB base e (.slice (some ⟨w.heap.size, 0, none⟩) n n) n g (w.alloc (.cells (row n g).toArray e)) :=
  ⟨by rw [row_length, Nat.mul_one], .inr ⟨w.heap.size, n, (row n g).toArray, rfl, hb, by
    show (w.heap.push (.cells (row n g).toArray e))[w.heap.size]? = _
    simp, Nat.le_refl _, by unfold maxLen; omega, by rw [row_size, Nat.mul_one], by
    show (row n g).take (n * 1) = row n g
    rw [Nat.mul_one]
    exact List.take_of_length_le (Nat.le_of_eq (row_length n g))⟩⟩
/-- an append to bytes that have no room: a list of one's own comes of it -/
theorem wpList_growC {ops : Array Oper} {rest : List Oper} {o : Oper} {a : Act} {Q : Exit → Act → World → Prop} {w : World} (hg : o.guard = none) (s x : Operand) (ho : o.op = .call { callee := .builtin .append, args := #[s, x], argTypes := #[28, 28] })
    (ad0 : Addr) (n : Nat) (f : Nat → BitVec 8) (hs : a.eval s = .slice (some ad0) n n) (hf : LieAt ad0 n (yv f) w) (ad : Addr) (m c : Nat) (b : Nat → BitVec 8) (hx : a.eval x = .slice (some ad) m c) (hb : LieAt ad m (yv b) w) (hm : 0 < m) (hnm : n + m ≤ 1000000)
    (h : ∀ v' w', OwnB w.heap.size 5 v' (n + m) (yv (catF f n b)) w' → Ext w w' → wpList Tryd.prog ops Q rest (a.put o.dst v') w') : wpList Tryd.prog ops Q (o :: rest) a w := by
  obtain ⟨i, z, e1, e2, e3, e4, e5⟩ := elem22.info
  refine wpList_append_grows w hg s x 28 ho 5 i z 1 1 elem22.slice e1 e2 e3 e4 e5 (by decide) (some ad0) n n (row n (yv f)) hs (fun h => by cases h) (by rw [row_length, Nat.mul_one]) (fun b0 hb0 j u hj => ?_) ad m c (row m (yv b)) hx (by rw [row_length, Nat.mul_one]) (fun j u hj => ?_) (fun u hu => ?_) (by omega) (by unfold maxLen; omega) (by omega) ?_
  · injection hb0 with hb0
    subst hb0
    obtain ⟨hj', rfl⟩ := row_some hj
    exact hf.1 j hj'
  · obtain ⟨hj', rfl⟩ := row_some hj
    exact hb.1 j hj'
  · obtain ⟨j, _, rfl⟩ := List.mem_map.1 hu
    rfl
  · intro v' w' h1 h2
    refine h v' w' ?_ ⟨h2.os, h2.tape, h2.output, h2.size, fun k hk => h2.block k hk (by simp)⟩
    unfold OwnB
    rw [row_append n m (yv f) (yv b) (yv (catF f n b)) (fun j hj => by simp only [yv]; unfold catF; rw [if_pos hj]) (fun j hj => by simp only [yv]; unfold catF; rw [if_neg (by omega), Nat.add_sub_cancel_left])] at h1
    exact h1
theorem own_low {B B' : Nat} {e : TypeId} {v : Value} {n : Nat} {g : Nat → Value} {w : World} (h : OwnB B e v n g w) (hb : B' ≤ B) : OwnB B' e v n g w := by
  obtain ⟨h1, h2⟩ := h
  refine ⟨h1, ?_⟩
  rcases h2 with h2 | ⟨b, cap, cur, e1, e2, r⟩
  · exact .inl h2
  · exact .inr ⟨b, cap, cur, e1, Nat.le_trans hb e2, r⟩
/-- bytes so far, in memory that this call made -/
def RE (w1 : World) (v : Value) (n : Nat) (f : Nat → BitVec 8) (X : World) : Prop := OwnB w1.heap.size 5 v n (yv f) X ∧ Ext w1 X
theorem RE.ext {w1 X Y : World} {v : Value} {n : Nat} {f : Nat → BitVec 8} (H : RE w1 v n f X) (k : Ext X Y) : RE w1 v n f Y := ⟨H.1.ext k, Ext.trans H.2 k⟩
theorem RE.grown {w1 X Y : World} {v v' : Value} {n m : Nat} {f g : Nat → BitVec 8} (H : RE w1 v n f X) (hO : OwnB w1.heap.size 5 v' m (yv g) Y) (hg : X.grownBy Y v.ownBlock) : RE w1 v' m g Y :=
  ⟨hO, Below.trans H.2 (below_grown (Below.size H.2) hg fun k hk => (H.1.lt k hk).1)⟩
theorem RE.app {w1 X : World} {v : Value} {n : Nat} {f : Nat → BitVec 8} (H : RE w1 v n f X) (ty : TypeId) (ad : Addr) (m c : Nat) (b : Nat → BitVec 8) (hb : LieAt ad m (yv b) X) (hnm : n + m ≤ 1000) :
    ∃ v' X', (Builtin.append_ #[28, 28] ty #[v, .slice (some ad) m c]).run Tryd.prog X = .ok v' X' ∧ RE w1 v' (n + m) (catF f n b) X' ∧ X.grownBy X' v.ownBlock := by
  obtain ⟨v', X', h1, h2, h3⟩ := run_growB ty H.1 ad m c b hb (by omega) (Below.size H.2)
  exact ⟨v', X', h1, H.grown h2 h3, h3⟩
theorem RE.apart {w1 X : World} {v : Value} {n : Nat} {f : Nat → BitVec 8} (H : RE w1 v n f X) {ad : Addr} (h : X.heap.size ≤ ad.block) : ∀ k, v.ownBlock = some k → ad.block ≠ k := fun k hk => by have := (H.1.lt k hk).2; omega
theorem num_lie {B n : Nat} {v : Value} {f : Nat → BitVec 8} {X : World} (h : OwnB B 5 v n (yv f) X) (hn : 0 < n) : ∃ b cap, v = .slice (some ⟨b, 0, none⟩) n cap ∧ LieAt ⟨b, 0, none⟩ n (yv f) X ∧ B ≤ b := by
  obtain ⟨b, cap, e, h1, _, _, h4⟩ := h.lies hn
  exact ⟨b, cap, e, h4.lie n (Nat.le_refl _), h1⟩
theorem name_lie {c : Nat} {h : Hd} {w : World} (H : RowAt c 24 (hdv h) w) : LieAt ⟨c, 8, none⟩ 16 (yv h.nm) w := by
  rcases name_bytes H with ⟨e, _⟩ | ⟨a, cap, e, _, h3⟩
  · cases e
  · injection e with e
    injection e with e
    subst e
    exact h3
theorem wr8 {x : Int} (h0 : 0 ≤ x) (h1 : x < 65536) : IntKind.u8.wrap x = ((byB (bI x) 0).toNat : Int) := by
  have hb := bI_nat h0 h1
  rw [byB_nat, IntKind.wrap_u8]
  omega
theorem wr64 {x : Int} (h0 : 0 ≤ x) (h1 : x < 65536) : IntKind.u64.wrap x = ((bI x).toNat : Int) := by
  rw [bI_nat h0 h1, IntKind.wrap_u64]
  omega
theorem ty5 : ∃ i, Tryd.prog.info? 5 = some i ∧ i.zero = some (.int .u8 0) ∧ i.size = 1 ∧ i.bytes = 1 := by
  have h : (Tryd.prog.info? 5).map (fun i => (i.zero, i.size, i.bytes)) = some (some (.int .u8 0), 1, 1) := by kernel_rfl
  cases hi : Tryd.prog.info? 5 with
  | none => rw [hi] at h; cases h
  | some i =>
    rw [hi] at h
    simp only [Option.map_some, Option.some.injEq, Prod.mk.injEq] at h
    exact ⟨i, rfl, h.1, h.2.1, h.2.2⟩
def f3F (h : Hd) : Nat → BitVec 8 := catF (bT mkL) 8 (byB h.g)
def f4F (h : Hd) : Nat → BitVec 8 := catF (catF (catF (f3F h) 16 (byB (bI h.se))) 20 (byB (bI h.sl))) 21 (byB (bI h.jo))
def f5F (h : Hd) : Nat → BitVec 8 := catF (catF (f4F h) 23 (catF (byB (bI h.sg)) 1 (byB (bI h.ti)))) 25 (byB (bI h.me))
def f6F (h : Hd) : Nat → BitVec 8 := catF (catF (f5F h) 27 (byB (bI h.la))) 28 h.nm
theorem one_lie (w : World) (x : BitVec 8) (b : Nat → BitVec 8) (hx : b 0 = x) : LieAt ⟨w.heap.size, 0, none⟩ 1 (yv b) (w.alloc (.cells #[.int .u8 (x.toNat : Int)] 5)) := by
  have hr := RowAt.newOf w 1 (yv b) 5 #[.int .u8 (x.toNat : Int)] (fun j hj => by
    obtain rfl : j = 0 := by omega
    rw [← hx]
    rfl)
  exact hr.lie 1 (Nat.le_refl _)
theorem two_lie (w : World) (x y : BitVec 8) (b : Nat → BitVec 8) (hx : b 0 = x) (hy : b 1 = y) : LieAt ⟨w.heap.size, 0, none⟩ 2 (yv b) (w.alloc (.cells #[.int .u8 (x.toNat : Int), .int .u8 (y.toNat : Int)] 5)) := by
  have hr := RowAt.newOf w 2 (yv b) 5 #[.int .u8 (x.toNat : Int), .int .u8 (y.toNat : Int)] (fun j hj => by
    rcases (by omega : j = 0 ∨ j = 1) with rfl | rfl
    · rw [← hx]; rfl
    · rw [← hy]; rfl)
  exact hr.lie 2 (Nat.le_refl _)
theorem mk8 (w : World) : (Instr.buildSlice 28 8 #[(0, .int .u8 67), (1, .int .u8 65), (2, .int .u8 83), (3, .int .u8 75), (4, .int .u8 69), (5, .int .u8 84), (6, .int .u8 48), (7, .int .u8 49)]).run Tryd.prog w = .ok (.slice (some ⟨w.heap.size, 0, none⟩) 8 8) (w.alloc (.cells (row 8 (yv (bT mkL))).toArray 5)) := by kernel_rfl
theorem wpList_bslice {P : Program} {ops : Array Oper} {rest : List Oper} {o : Oper} {a : Act} {w : World} {Q : Exit → Act → World → Prop} (hg : o.guard = none) (t : TypeId) (n : Nat) (parts : List (Nat × Operand)) (ho : o.op = .buildSlice t n parts.toArray) (v : Value) (w' : World)
    (hr : (Instr.buildSlice t n (parts.map fun p => (p.1, a.eval p.2)).toArray).run P w = .ok v w') (h : wpList P ops Q rest (a.put o.dst v) w') : wpList P ops Q (o :: rest) a w := by
  refine wpList_to hg v w' ?_ h
  unfold execOp
  simp [ho, hr]
theorem f6_hd (h : Hd) {j : Nat} (hj : j < 44) : f6F h j = hdF h j := by
  rw [hdF_hp]
  unfold f6F f5F f4F f3F hpF catF
  by_cases c0 : j < 8
  · have q8 : j < 8 := by omega
    have q16 : j < 16 := by omega
    have q20 : j < 20 := by omega
    have q21 : j < 21 := by omega
    have q23 : j < 23 := by omega
    have q24 : j < 24 := by omega
    have q25 : j < 25 := by omega
    have q27 : j < 27 := by omega
    have q28 : j < 28 := by omega
    have r1 : (j - 23 < 1) = (j < 24) := by simp only [eq_iff_iff]; omega
    have r2 : j - 23 - 1 = j - 24 := by omega
    simp only [r1, r2, q8, q16, q20, q21, q23, q24, q25, q27, q28, if_true]
  by_cases c1 : j < 16
  · have q8 : ¬ j < 8 := by omega
    have q16 : j < 16 := by omega
    have q20 : j < 20 := by omega
    have q21 : j < 21 := by omega
    have q23 : j < 23 := by omega
    have q24 : j < 24 := by omega
    have q25 : j < 25 := by omega
    have q27 : j < 27 := by omega
    have q28 : j < 28 := by omega
    have r1 : (j - 23 < 1) = (j < 24) := by simp only [eq_iff_iff]; omega
    have r2 : j - 23 - 1 = j - 24 := by omega
    simp only [r1, r2, q8, q16, q20, q21, q23, q24, q25, q27, q28, if_true, if_false]
  by_cases c2 : j < 20
  · have q8 : ¬ j < 8 := by omega
    have q16 : ¬ j < 16 := by omega
    have q20 : j < 20 := by omega
    have q21 : j < 21 := by omega
    have q23 : j < 23 := by omega
    have q24 : j < 24 := by omega
    have q25 : j < 25 := by omega
    have q27 : j < 27 := by omega
    have q28 : j < 28 := by omega
    have r1 : (j - 23 < 1) = (j < 24) := by simp only [eq_iff_iff]; omega
    have r2 : j - 23 - 1 = j - 24 := by omega
    simp only [r1, r2, q8, q16, q20, q21, q23, q24, q25, q27, q28, if_true, if_false]
  by_cases c3 : j < 21
  · have q8 : ¬ j < 8 := by omega
    have q16 : ¬ j < 16 := by omega
    have q20 : ¬ j < 20 := by omega
    have q21 : j < 21 := by omega
    have q23 : j < 23 := by omega
    have q24 : j < 24 := by omega
    have q25 : j < 25 := by omega
    have q27 : j < 27 := by omega
    have q28 : j < 28 := by omega
    have r1 : (j - 23 < 1) = (j < 24) := by simp only [eq_iff_iff]; omega
    have r2 : j - 23 - 1 = j - 24 := by omega
    simp only [r1, r2, q8, q16, q20, q21, q23, q24, q25, q27, q28, if_true, if_false]
  by_cases c4 : j < 23
  · have q8 : ¬ j < 8 := by omega
    have q16 : ¬ j < 16 := by omega
    have q20 : ¬ j < 20 := by omega
    have q21 : ¬ j < 21 := by omega
    have q23 : j < 23 := by omega
    have q24 : j < 24 := by omega
    have q25 : j < 25 := by omega
    have q27 : j < 27 := by omega
    have q28 : j < 28 := by omega
    have r1 : (j - 23 < 1) = (j < 24) := by simp only [eq_iff_iff]; omega
    have r2 : j - 23 - 1 = j - 24 := by omega
    simp only [r1, r2, q8, q16, q20, q21, q23, q24, q25, q27, q28, if_true, if_false]
  by_cases c5 : j < 24
  · have q8 : ¬ j < 8 := by omega
    have q16 : ¬ j < 16 := by omega
    have q20 : ¬ j < 20 := by omega
    have q21 : ¬ j < 21 := by omega
    have q23 : ¬ j < 23 := by omega
    have q24 : j < 24 := by omega
    have q25 : j < 25 := by omega
    have q27 : j < 27 := by omega
    have q28 : j < 28 := by omega
    have r1 : (j - 23 < 1) = (j < 24) := by simp only [eq_iff_iff]; omega
    have r2 : j - 23 - 1 = j - 24 := by omega
    simp only [r1, r2, q8, q16, q20, q21, q23, q24, q25, q27, q28, if_true, if_false]
  by_cases c6 : j < 25
  · have q8 : ¬ j < 8 := by omega
    have q16 : ¬ j < 16 := by omega
    have q20 : ¬ j < 20 := by omega
    have q21 : ¬ j < 21 := by omega
    have q23 : ¬ j < 23 := by omega
    have q24 : ¬ j < 24 := by omega
    have q25 : j < 25 := by omega
    have q27 : j < 27 := by omega
    have q28 : j < 28 := by omega
    have r1 : (j - 23 < 1) = (j < 24) := by simp only [eq_iff_iff]; omega
    have r2 : j - 23 - 1 = j - 24 := by omega
    simp only [r1, r2, q8, q16, q20, q21, q23, q24, q25, q27, q28, if_true, if_false]
  by_cases c7 : j < 27
  · have q8 : ¬ j < 8 := by omega
    have q16 : ¬ j < 16 := by omega
    have q20 : ¬ j < 20 := by omega
    have q21 : ¬ j < 21 := by omega
    have q23 : ¬ j < 23 := by omega
    have q24 : ¬ j < 24 := by omega
    have q25 : ¬ j < 25 := by omega
    have q27 : j < 27 := by omega
    have q28 : j < 28 := by omega
    have r1 : (j - 23 < 1) = (j < 24) := by simp only [eq_iff_iff]; omega
    have r2 : j - 23 - 1 = j - 24 := by omega
    simp only [r1, r2, q8, q16, q20, q21, q23, q24, q25, q27, q28, if_true, if_false]
  by_cases c8 : j < 28
  · have q8 : ¬ j < 8 := by omega
    have q16 : ¬ j < 16 := by omega
    have q20 : ¬ j < 20 := by omega
    have q21 : ¬ j < 21 := by omega
    have q23 : ¬ j < 23 := by omega
    have q24 : ¬ j < 24 := by omega
    have q25 : ¬ j < 25 := by omega
    have q27 : ¬ j < 27 := by omega
    have q28 : j < 28 := by omega
    have r1 : (j - 23 < 1) = (j < 24) := by simp only [eq_iff_iff]; omega
    have r2 : j - 23 - 1 = j - 24 := by omega
    simp only [r1, r2, q8, q16, q20, q21, q23, q24, q25, q27, q28, if_true, if_false]
  have q8 : ¬ j < 8 := by omega
  have q16 : ¬ j < 16 := by omega
  have q20 : ¬ j < 20 := by omega
  have q21 : ¬ j < 21 := by omega
  have q23 : ¬ j < 23 := by omega
  have q24 : ¬ j < 24 := by omega
  have q25 : ¬ j < 25 := by omega
  have q27 : ¬ j < 27 := by omega
  have q28 : ¬ j < 28 := by omega
  have r1 : (j - 23 < 1) = (j < 24) := by simp only [eq_iff_iff]; omega
  have r2 : j - 23 - 1 = j - 24 := by omega
  simp only [r1, r2, q8, q16, q20, q21, q23, q24, q25, q27, q28, if_false]
theorem BV.congr_ {v : Value} {l : Nat} {b b' : Nat → BitVec 8} {w : World} (h : BV v l b w) (e : ∀ j, j < l → b j = b' j) : BV v l b' w := by
  rcases h with h | ⟨a, cap, h1, h2, h3⟩
  · exact .inl h
  · exact .inr ⟨a, cap, h1, h2, fun j hj => by rw [h3.1 j hj]; simp only [yv, e j hj], h3.2⟩
theorem hb_cat (h : Hd) (sg : Nat → BitVec 8) (e : sg = shaF (padF (f6F h) 44) 480) : ∀ j, j < 512 → catF (padF (f6F h) 44) 480 sg j = hbF h j := fun j hj => by
  have hz : ∀ i, i < 480 → padF (f6F h) 44 i = hzF h i := fun i hi => by
    unfold hzF padF
    by_cases c : i < 44
    · rw [if_pos c, if_pos c, f6_hd h c]
    · rw [if_neg c, if_neg c]
  rw [e, shaF_congr _ _ 480 hz]
  unfold hbF catF
  by_cases c : j < 480
  · rw [if_pos c, if_pos c, hz j c]
  · rw [if_neg c, if_neg c]
set_option maxRecDepth 20000 in
set_option maxHeartbeats 2000000 in
theorem renc_no (h : Hd) (w : World) (hk : ¬ okH h) : Calls Tryd.prog 9 #[.agg (row 24 (hdv h)).toArray] w fun e w' => e = .returned (.tuple #[.slice none 0 0, .int .i64 1]) ∧ Ext w w' := by
  have H1 : Hid (RowAt w.heap.size 24 (hdv h) (w.alloc (.cells (row 24 (hdv h)).toArray 27))) := RowAt.new w 24 _ 27
  have hE1 : Hid (Ext w (w.alloc (.cells (row 24 (hdv h)).toArray 27))) := (Below.refl _ _).alloc (Nat.le_refl _) _
  go_enter Tryd.func9, Tryd.ntmps9
  go_upto_region 0 with (fail)
  refine wp_region_lit ?_
  refine wpList_to rfl (.pointer (some ⟨w.heap.size, 0, none⟩)) (w.alloc (.cells (row 24 (hdv h)).toArray 27)) (by simp [go_sem]) ?_
  simp only [Act.put, List.setIfInBounds_toArray, List.set_cons_zero, List.set_cons_succ]
  generalize w.alloc (.cells (row 24 (hdv h)).toArray 27) = w1 at *
  generalize w.heap.size = c at H1 ⊢
  go_upto_region 1 with (fail)
  have k := hideit (rcheck_no h w1 hk)
  refine wp_region_lit ?_
  refine wpList_run rfl (.agg (row 24 (hdv h)).toArray) (exec_loadR 27 (.tmp 1) rfl c 0 24 _ rfl H1.out.range Tryd.underlying27 rfl infoH) ?_
  simp only [Act.put, List.setIfInBounds_toArray, List.set_cons_zero, List.set_cons_succ]
  refine wpList_call rfl (by simp [go_sem]; exact ⟨rfl, rfl⟩) ?_
  refine (k.out).mono ?_
  rintro e w2 ⟨rfl, hX2⟩
  refine ⟨_, rfl, ?_⟩
  simp only [Act.put, List.setIfInBounds_toArray, List.set_cons_zero, List.set_cons_succ]
  have hE2 := hideit (Ext.trans hE1.out hX2)
  clear k hk H1 hX2 hE1
  go_wp2
  go_ret2
  exact ⟨rfl, hE2.out⟩
set_option maxRecDepth 20000 in
set_option maxHeartbeats 2000000 in
theorem renc_ok (h : Hd) (w : World) (hk : okH h) : Calls Tryd.prog 9 #[.agg (row 24 (hdv h)).toArray] w fun e w' => ∃ v, e = .returned (.tuple #[v, .int .i64 0]) ∧ BV v 512 (hbF h) w' ∧ Ext w w' := by
  have hk0 := hk
  obtain ⟨⟨a1, a2, a3, a4, a5, a6⟩, p1, p2, p3⟩ := hk0
  have cse : IntKind.u64.wrap h.se = ((bI h.se).toNat : Int) := wr64 (by omega) (by omega)
  have cjo : IntKind.u64.wrap h.jo = ((bI h.jo).toNat : Int) := wr64 (by omega) (by omega)
  have cme : IntKind.u64.wrap h.me = ((bI h.me).toNat : Int) := wr64 (by omega) (by omega)
  have csl : IntKind.u8.wrap h.sl = ((byB (bI h.sl) 0).toNat : Int) := wr8 (by omega) (by omega)
  have csg : IntKind.u8.wrap h.sg = ((byB (bI h.sg) 0).toNat : Int) := wr8 (by omega) (by omega)
  have cti : IntKind.u8.wrap h.ti = ((byB (bI h.ti) 0).toNat : Int) := wr8 (by omega) (by omega)
  have cla : IntKind.u8.wrap h.la = ((byB (bI h.la) 0).toNat : Int) := wr8 (by omega) (by omega)
  clear a1 a2 a3 a4 a5 a6 p1 p2 p3
  have H1 : Hid (RowAt w.heap.size 24 (hdv h) (w.alloc (.cells (row 24 (hdv h)).toArray 27))) := RowAt.new w 24 _ 27
  have hE1 : Hid (Ext w (w.alloc (.cells (row 24 (hdv h)).toArray 27))) := (Below.refl _ _).alloc (Nat.le_refl _) _
  go_enter Tryd.func9, Tryd.ntmps9
  go_upto_region 0 with (fail)
  refine wp_region_lit ?_
  refine wpList_to rfl (.pointer (some ⟨w.heap.size, 0, none⟩)) (w.alloc (.cells (row 24 (hdv h)).toArray 27)) (by simp [go_sem]) ?_
  simp only [Act.put, List.setIfInBounds_toArray, List.set_cons_zero, List.set_cons_succ]
  generalize w.alloc (.cells (row 24 (hdv h)).toArray 27) = w1 at *
  generalize w.heap.size = c at H1 ⊢
  go_upto_region 1 with (fail)
  have k := hideit (rcheck_ok h w1 hk)
  refine wp_region_lit ?_
  refine wpList_run rfl (.agg (row 24 (hdv h)).toArray) (exec_loadR 27 (.tmp 1) rfl c 0 24 _ rfl H1.out.range Tryd.underlying27 rfl infoH) ?_
  simp only [Act.put, List.setIfInBounds_toArray, List.set_cons_zero, List.set_cons_succ]
  refine wpList_call rfl (by simp [go_sem]; exact ⟨rfl, rfl⟩) ?_
  refine (k.out).mono ?_
  rintro e w2 ⟨rfl, hX2⟩
  refine ⟨_, rfl, ?_⟩
  simp only [Act.put, List.setIfInBounds_toArray, List.set_cons_zero, List.set_cons_succ]
  clear k hk
  replace hX2 := hideit hX2
  go_upto_region 3 with (fail)
  have hcv := mark_const w2 (row 8 (yv (bT mkL))).toArray 8
  have L3 : Hid (LieAt ⟨w2.heap.size, 0, none⟩ 8 (yv (bT mkL)) (w2.alloc (.cells (row 8 (yv (bT mkL))).toArray 5 ((row 8 (yv (bT mkL))).toArray.size, (row 8 (yv (bT mkL))).toArray.size + 1)))) := lieNew w2 8 _ 5 _ _ (fun j hj => by rw [List.getElem?_toArray]; exact row_get 8 _ j hj)
  have hX3 : Ext w1 (w2.alloc (.cells (row 8 (yv (bT mkL))).toArray 5 ((row 8 (yv (bT mkL))).toArray.size, (row 8 (yv (bT mkL))).toArray.size + 1))) := Ext.trans hX2.out ((Below.refl _ _).alloc (Nat.le_refl _) _)
  refine wp_region_lit ?_
  refine wpList_bslice rfl 28 8 [(0, .const (.int .u8 67)), (1, .const (.int .u8 65)), (2, .const (.int .u8 83)), (3, .const (.int .u8 75)), (4, .const (.int .u8 69)), (5, .const (.int .u8 84)), (6, .const (.int .u8 48)), (7, .const (.int .u8 49))] rfl (.slice (some ⟨w2.heap.size, 0, none⟩) 8 8) (w2.alloc (.cells (row 8 (yv (bT mkL))).toArray 5)) (mk8 w2) ?_
  simp only [Act.put, List.setIfInBounds_toArray, List.set_cons_zero, List.set_cons_succ]
  refine wpList_to rfl (.slice (some ⟨w2.heap.size, 0, none⟩) 8 8) (w2.alloc (.cells (row 8 (yv (bT mkL))).toArray 5 ((row 8 (yv (bT mkL))).toArray.size, (row 8 (yv (bT mkL))).toArray.size + 1))) (by simp [go_sem, hcv]) ?_
  simp only [Act.put, List.setIfInBounds_toArray, List.set_cons_zero, List.set_cons_succ]
  clear hcv
  generalize w2.alloc (.cells (row 8 (yv (bT mkL))).toArray 5 ((row 8 (yv (bT mkL))).toArray.size, (row 8 (yv (bT mkL))).toArray.size + 1)) = w3 at *
  generalize w2.heap.size = b8 at *
  have e0 : w3.cell? ⟨c, 0, none⟩ = some (.int .u64 (h.g.toNat : Int)) := (H1.out.carry hX3).1 0 (by decide)
  replace hX3 := hideit hX3
  clear hX2
  refine wpList_run rfl (.pointer (some ⟨c, 0, none⟩)) (by simp [go_sem]) ?_
  simp only [Act.put, List.setIfInBounds_toArray, List.set_cons_zero, List.set_cons_succ]
  refine wpList_run rfl (.int .u64 (h.g.toNat : Int)) (by simp [go_sem, e0]) ?_
  simp only [Act.put, List.setIfInBounds_toArray, List.set_cons_zero, List.set_cons_succ]
  refine wpList_call rfl (by simp [go_sem]; exact ⟨rfl, rfl⟩) ?_
  refine (number_any 8 h.g w3 (by decide)).mono ?_
  rintro e w4 ⟨nv, rfl, hN, hX4⟩
  refine ⟨_, rfl, ?_⟩
  simp only [Act.put, List.setIfInBounds_toArray, List.set_cons_zero, List.set_cons_succ]
  obtain ⟨nb, nc, rfl, hL, _⟩ := num_lie hN (by decide)
  have hE4 := Ext.trans hX3.out hX4
  refine wpList_growC rfl (.tmp 10) (.tmp 13) rfl ⟨b8, 0, none⟩ 8 (bT mkL) rfl (L3.out.carry hX4) ⟨nb, 0, none⟩ 8 nc (byB h.g) rfl hL (by decide) (by decide) ?_
  intro v3 w5 hO hX5
  have R5 : Hid (RE w1 v3 16 (f3F h) w5) := ⟨own_low hO (Below.size hE4), Ext.trans hE4 hX5⟩
  clear hN hL hX4 hE4 L3 e0 hX3 hO hX5
  simp only [Act.put, List.setIfInBounds_toArray, List.set_cons_zero, List.set_cons_succ]
  go_upto_region 4 with (fail)
  rename_i K hKK
  have hK : ∀ (x6 x7 x8 x9 x10 x11 x12 x13 x14 x15 x16 x17 x18 x19 x20 x21 x22 x23 x24 x25 x26 x27 x28 x29 x30 vv : Value) (v4 : World), Hid (RE w1 vv 23 (f4F h) v4) → K ⟨#[.agg (row 24 (hdv h)).toArray, .pointer (some ⟨c, 0, none⟩), .slice none 0 0, .int .i64 0, vv, undef, x6, x7, x8, x9, x10, x11, x12, x13, x14, x15, x16, x17, x18, x19, x20, x21, x22, x23, x24, x25, x26, x27, x28, x29, x30, undef, undef, undef, undef, undef, undef, undef, undef, undef, undef, undef, undef, undef, undef, undef, undef, undef, undef, undef, undef, undef, undef, undef, undef, undef, undef, undef, undef, undef, undef, undef, undef, undef, undef, undef, undef], []⟩ v4 := by
    intro x6 x7 x8 x9 x10 x11 x12 x13 x14 x15 x16 x17 x18 x19 x20 x21 x22 x23 x24 x25 x26 x27 x28 x29 x30 vv v4 R4
    refine hKK _ _ ?_
    go_upto_region 5 with (fail)
    have D := hideit (R4.out.ext (Ext.refl v4).draw)
    clear R4
    refine wp_region_lad (fun X => Ext w1 X) [(false, 0), (false, 1), (false, 2), (false, 3), (false, 4), (false, 5), (false, 6), (false, 7), (false, 10), (false, 11), (false, 12), (false, 13), (true, 8), (true, 9), (true, 14), (true, 15), (false, 16)] (by kernel_rfl) (by kernel_rfl) (by decide +kernel) (by decide +kernel) (by decide +kernel) (by decide +kernel) D.out.2 ?_
    refine wpX_f _ (vv) rfl rfl (fun X _ => by simp [go_sem]) ?_
    simp only [List.getElem_toArray, List.getElem_cons_zero, Act.put, List.setIfInBounds_toArray, List.set_cons_zero, List.set_cons_succ]
    refine wpX_f _ (.pointer (some ⟨c, 4, none⟩)) rfl rfl (fun X _ => by simp [go_sem]) ?_
    simp only [List.getElem_toArray, List.getElem_cons_zero, List.getElem_cons_succ, Act.put, List.setIfInBounds_toArray, List.set_cons_zero, List.set_cons_succ]
    refine wpX_f _ (.int .i64 h.sg) rfl rfl (fun X hX => by have e : X.cell? ⟨c, 4, none⟩ = some (.int .i64 h.sg) := (H1.out.carry hX).1 4 (by decide); simp [go_sem, e]) ?_
    simp only [List.getElem_toArray, List.getElem_cons_zero, List.getElem_cons_succ, Act.put, List.setIfInBounds_toArray, List.set_cons_zero, List.set_cons_succ]
    refine wpX_f _ (.int .u8 ((byB (bI h.sg) 0).toNat : Int)) rfl rfl (fun X _ => by simp [go_sem, csg]) ?_
    simp only [List.getElem_toArray, List.getElem_cons_zero, List.getElem_cons_succ, Act.put, List.setIfInBounds_toArray, List.set_cons_zero, List.set_cons_succ]
    refine wpX_f _ (.pointer (some ⟨c, 5, none⟩)) rfl rfl (fun X _ => by simp [go_sem]) ?_
    simp only [List.getElem_toArray, List.getElem_cons_zero, List.getElem_cons_succ, Act.put, List.setIfInBounds_toArray, List.set_cons_zero, List.set_cons_succ]
    refine wpX_f _ (.pointer (some ⟨c, 5, none⟩)) rfl rfl (fun X _ => by simp [go_sem]) ?_
    simp only [List.getElem_toArray, List.getElem_cons_zero, List.getElem_cons_succ, Act.put, List.setIfInBounds_toArray, List.set_cons_zero, List.set_cons_succ]
    refine wpX_f _ (.int .i64 h.ti) rfl rfl (fun X hX => by have e : X.cell? ⟨c, 5, none⟩ = some (.int .i64 h.ti) := (H1.out.carry hX).1 5 (by decide); simp [go_sem, e]) ?_
    simp only [List.getElem_toArray, List.getElem_cons_zero, List.getElem_cons_succ, Act.put, List.setIfInBounds_toArray, List.set_cons_zero, List.set_cons_succ]
    refine wpX_f _ (.int .u8 ((byB (bI h.ti) 0).toNat : Int)) rfl rfl (fun X _ => by simp [go_sem, cti]) ?_
    simp only [List.getElem_toArray, List.getElem_cons_zero, List.getElem_cons_succ, Act.put, List.setIfInBounds_toArray, List.set_cons_zero, List.set_cons_succ]
    refine wpX_f _ (.pointer (some ⟨c, 5, none⟩)) rfl rfl (fun X _ => by simp [go_sem]) ?_
    simp only [List.getElem_toArray, List.getElem_cons_zero, List.getElem_cons_succ, Act.put, List.setIfInBounds_toArray, List.set_cons_zero, List.set_cons_succ]
    refine wpX_f _ (.pointer (some ⟨c, 6, none⟩)) rfl rfl (fun X _ => by simp [go_sem]) ?_
    simp only [List.getElem_toArray, List.getElem_cons_zero, List.getElem_cons_succ, Act.put, List.setIfInBounds_toArray, List.set_cons_zero, List.set_cons_succ]
    refine wpX_f _ (.int .i64 h.me) rfl rfl (fun X hX => by have e : X.cell? ⟨c, 6, none⟩ = some (.int .i64 h.me) := (H1.out.carry hX).1 6 (by decide); simp [go_sem, e]) ?_
    simp only [List.getElem_toArray, List.getElem_cons_zero, List.getElem_cons_succ, Act.put, List.setIfInBounds_toArray, List.set_cons_zero, List.set_cons_succ]
    refine wpX_f _ (.int .u64 ((bI h.me).toNat : Int)) rfl rfl (fun X _ => by simp [go_sem, cme]) ?_
    simp only [List.getElem_toArray, List.getElem_cons_zero, List.getElem_cons_succ, Act.put, List.setIfInBounds_toArray, List.set_cons_zero, List.set_cons_succ]
    have hXa : Ext v4.drew (v4.drew.alloc (.cells #[.int .u8 ((byB (bI h.sg) 0).toNat : Int), .int .u8 ((byB (bI h.ti) 0).toNat : Int)] 5)) := (Below.refl _ _).alloc (Nat.le_refl _) _
    have La := two_lie v4.drew (byB (bI h.sg) 0) (byB (bI h.ti) 0) (catF (byB (bI h.sg)) 1 (byB (bI h.ti))) rfl rfl
    have Ra := D.out.ext hXa
    clear D hXa
    refine wpX_to _ (.slice (some ⟨v4.drew.heap.size, 0, none⟩) 2 2) (v4.drew.alloc (.cells #[.int .u8 ((byB (bI h.sg) 0).toNat : Int), .int .u8 ((byB (bI h.ti) 0).toNat : Int)] 5)) rfl rfl (by simp [go_sem]) (fun X => Ext w1 X) (fun X hX => hX) Ra.2 ?_
    simp only [List.getElem_toArray, List.getElem_cons_zero, List.getElem_cons_succ, Act.put, List.setIfInBounds_toArray, List.set_cons_zero, List.set_cons_succ]
    generalize v4.drew.alloc (.cells #[.int .u8 ((byB (bI h.sg) 0).toNat : Int), .int .u8 ((byB (bI h.ti) 0).toNat : Int)] 5) = Wa at *
    generalize v4.drew.heap.size = ba at *
    obtain ⟨va, Wb, hr, Rb, _⟩ := Ra.app 28 ⟨ba, 0, none⟩ 2 2 _ La (by decide)
    refine wpX_to _ (va) Wb rfl rfl (exec_append (.tmp 31) (.tmp 39) 28 28 rfl _ _ _ rfl rfl hr) (fun X => Ext w1 X) (fun X hX => hX) Rb.2 ?_
    simp only [List.getElem_toArray, List.getElem_cons_zero, List.getElem_cons_succ, Act.put, List.setIfInBounds_toArray, List.set_cons_zero, List.set_cons_succ]
    clear hr La Ra
    refine wpX_call _ rfl rfl (by simp [go_sem]) ((number_any 2 (bI h.me) Wb (by decide)).mono ?_)
    rintro e Wc ⟨nv, rfl, hN, hX⟩
    have Rc := Rb.ext hX
    obtain ⟨nb, nc, rfl, hL, _⟩ := num_lie hN (by decide)
    refine ⟨_, rfl, fun X => Ext w1 X, fun X hX => hX, Rc.2, ?_⟩
    simp only [List.getElem_toArray, List.getElem_cons_zero, List.getElem_cons_succ, Act.put, List.setIfInBounds_toArray, List.set_cons_zero, List.set_cons_succ]
    clear hX hN Rb
    obtain ⟨vd, Wd, hr, Rd, _⟩ := Rc.app 28 ⟨nb, 0, none⟩ 2 nc _ hL (by decide)
    refine wpX_to _ (vd) Wd rfl rfl (exec_append (.tmp 40) (.tmp 45) 28 28 rfl _ _ _ rfl rfl hr) (fun X => Ext w1 X) (fun X hX => hX) Rd.2 ?_
    simp only [List.getElem_toArray, List.getElem_cons_zero, List.getElem_cons_succ, Act.put, List.setIfInBounds_toArray, List.set_cons_zero, List.set_cons_succ]
    clear hr hL Rc
    replace Rd : Hid (RE w1 vd 27 (f5F h) Wd) := Rd
    refine wpX_f _ (vd) rfl rfl (fun X _ => by simp [go_sem]) ?_
    simp only [List.getElem_toArray, List.getElem_cons_zero, List.getElem_cons_succ, Act.put, List.setIfInBounds_toArray, List.set_cons_zero, List.set_cons_succ]
    refine wpX_nil ?_
    go_upto_region 6 with (fail)
    have D := hideit (Rd.out.ext (Ext.refl Wd).draw)
    clear Rd
    refine wp_region_lad (fun X => Ext w1 X) [(false, 0), (false, 1), (false, 2), (false, 3), (false, 4), (false, 7), (false, 8), (true, 5), (true, 6), (true, 9), (false, 10)] (by kernel_rfl) (by kernel_rfl) (by decide +kernel) (by decide +kernel) (by decide +kernel) (by decide +kernel) D.out.2 ?_
    refine wpX_f _ (vd) rfl rfl (fun X _ => by simp [go_sem]) ?_
    simp only [List.getElem_toArray, List.getElem_cons_zero, Act.put, List.setIfInBounds_toArray, List.set_cons_zero, List.set_cons_succ]
    refine wpX_f _ (.pointer (some ⟨c, 5, none⟩)) rfl rfl (fun X _ => by simp [go_sem]) ?_
    simp only [List.getElem_toArray, List.getElem_cons_zero, List.getElem_cons_succ, Act.put, List.setIfInBounds_toArray, List.set_cons_zero, List.set_cons_succ]
    refine wpX_f _ (.pointer (some ⟨c, 7, none⟩)) rfl rfl (fun X _ => by simp [go_sem]) ?_
    simp only [List.getElem_toArray, List.getElem_cons_zero, List.getElem_cons_succ, Act.put, List.setIfInBounds_toArray, List.set_cons_zero, List.set_cons_succ]
    refine wpX_f _ (.int .i64 h.la) rfl rfl (fun X hX => by have e : X.cell? ⟨c, 7, none⟩ = some (.int .i64 h.la) := (H1.out.carry hX).1 7 (by decide); simp [go_sem, e]) ?_
    simp only [List.getElem_toArray, List.getElem_cons_zero, List.getElem_cons_succ, Act.put, List.setIfInBounds_toArray, List.set_cons_zero, List.set_cons_succ]
    refine wpX_f _ (.int .u8 ((byB (bI h.la) 0).toNat : Int)) rfl rfl (fun X _ => by simp [go_sem, cla]) ?_
    simp only [List.getElem_toArray, List.getElem_cons_zero, List.getElem_cons_succ, Act.put, List.setIfInBounds_toArray, List.set_cons_zero, List.set_cons_succ]
    refine wpX_f _ (.pointer (some ⟨c, 8, none⟩)) rfl rfl (fun X _ => by simp [go_sem]) ?_
    simp only [List.getElem_toArray, List.getElem_cons_zero, List.getElem_cons_succ, Act.put, List.setIfInBounds_toArray, List.set_cons_zero, List.set_cons_succ]
    refine wpX_f _ (.slice (some ⟨c, 8, none⟩) 16 16) rfl rfl (fun X hX => by simp [go_sem, cutR25]) ?_
    simp only [List.getElem_toArray, List.getElem_cons_zero, List.getElem_cons_succ, Act.put, List.setIfInBounds_toArray, List.set_cons_zero, List.set_cons_succ]
    have hXa : Ext Wd.drew (Wd.drew.alloc (.cells #[.int .u8 ((byB (bI h.la) 0).toNat : Int)] 5)) := (Below.refl _ _).alloc (Nat.le_refl _) _
    have La := one_lie Wd.drew (byB (bI h.la) 0) (byB (bI h.la)) rfl
    have Ra := D.out.ext hXa
    clear D hXa
    refine wpX_to _ (.slice (some ⟨Wd.drew.heap.size, 0, none⟩) 1 1) (Wd.drew.alloc (.cells #[.int .u8 ((byB (bI h.la) 0).toNat : Int)] 5)) rfl rfl (by simp [go_sem]) (fun X => Ext w1 X) (fun X hX => hX) Ra.2 ?_
    simp only [List.getElem_toArray, List.getElem_cons_zero, List.getElem_cons_succ, Act.put, List.setIfInBounds_toArray, List.set_cons_zero, List.set_cons_succ]
    generalize Wd.drew.alloc (.cells #[.int .u8 ((byB (bI h.la) 0).toNat : Int)] 5) = We at *
    generalize Wd.drew.heap.size = be at *
    obtain ⟨ve, Wf, hr, Rf, _⟩ := Ra.app 28 ⟨be, 0, none⟩ 1 1 _ La (by decide)
    refine wpX_to _ (ve) Wf rfl rfl (exec_append (.tmp 47) (.tmp 52) 28 28 rfl _ _ _ rfl rfl hr) (fun X => Ext w1 X) (fun X hX => hX) Rf.2 ?_
    simp only [List.getElem_toArray, List.getElem_cons_zero, List.getElem_cons_succ, Act.put, List.setIfInBounds_toArray, List.set_cons_zero, List.set_cons_succ]
    clear hr La Ra
    obtain ⟨vg, Wg, hr, Rg, _⟩ := Rf.app 28 ⟨c, 8, none⟩ 16 16 h.nm (name_lie (H1.out.carry Rf.2)) (by decide)
    refine wpX_to _ (vg) Wg rfl rfl (exec_append (.tmp 53) (.tmp 55) 28 28 rfl _ _ _ rfl rfl hr) (fun X => Ext w1 X) (fun X hX => hX) Rg.2 ?_
    simp only [List.getElem_toArray, List.getElem_cons_zero, List.getElem_cons_succ, Act.put, List.setIfInBounds_toArray, List.set_cons_zero, List.set_cons_succ]
    clear hr Rf
    replace Rg : Hid (RE w1 vg 44 (f6F h) Wg) := Rg
    refine wpX_f _ (vg) rfl rfl (fun X _ => by simp [go_sem]) ?_
    simp only [List.getElem_toArray, List.getElem_cons_zero, List.getElem_cons_succ, Act.put, List.setIfInBounds_toArray, List.set_cons_zero, List.set_cons_succ]
    refine wpX_nil ?_
    go_upto_region 7 with (fail)
    obtain ⟨i5, z1, z2, z3, z4⟩ := ty5
    obtain ⟨gb, gc, eg, _⟩ := num_lie Rg.out.1 (by decide)
    replace eg := hideit eg
    have hlen : ∀ X, (Builtin.lenOf vg).run Tryd.prog X = .ok 44 X := fun X => by rw [eg.out]; rfl
    refine wp_region_lit ?_
    refine wpList_run rfl (vg) (by simp [go_sem]) ?_
    simp only [Act.put, List.setIfInBounds_toArray, List.set_cons_zero, List.set_cons_succ]
    refine wpList_run rfl (vg) (by simp [go_sem]) ?_
    simp only [Act.put, List.setIfInBounds_toArray, List.set_cons_zero, List.set_cons_succ]
    refine wpList_run rfl (.int .i64 44) (by simp [go_sem, eg.out]) ?_
    simp only [Act.put, List.setIfInBounds_toArray, List.set_cons_zero, List.set_cons_succ]
    refine wpList_run rfl (.int .i64 436) (by simp [go_sem, show IntKind.i64.wrap 436 = 436 by decide]) ?_
    simp only [Act.put, List.setIfInBounds_toArray, List.set_cons_zero, List.set_cons_succ]
    refine wpList_zeros (P := Tryd.prog) (n := 44) (base := w1.heap.size) (g := yv (f6F h)) (f := yv (padF (f6F h) 44)) Wg (.int .u8 0) i5 _ Tryd.underlying28 Tryd.underlying3 z1 z2 z3 z4 rfl rfl rfl (.tmp 57) (.tmp 60) rfl rfl Rg.out.1 (by decide) 436 (by decide) rfl (fun j hj => by simp only [yv, padF, if_pos hj]) (fun j hj => by simp only [yv, padF, if_neg (show ¬ 44 + j < 44 by omega)]; rfl) (by decide) (Below.size Rg.out.2) ?_
    intro vh Wh hO hg
    have Rh : Hid (RE w1 vh 480 (padF (f6F h) 44) Wh) := Rg.out.grown hO hg
    clear hO hg Rg z1 z2 z3 z4 eg hlen
    simp only [Act.put, List.setIfInBounds_toArray, List.set_cons_zero, List.set_cons_succ]
    go_upto_region 8 with (fail)
    have k := hideit (rsumV vh 480 (padF (f6F h) 44) Wh Rh.out.1.bv (by decide))
    refine wp_region_lit ?_
    refine wpList_run rfl (vh) (by simp [go_sem]) ?_
    simp only [Act.put, List.setIfInBounds_toArray, List.set_cons_zero, List.set_cons_succ]
    refine wpList_call rfl (by simp [go_sem]; exact ⟨rfl, rfl⟩) ?_
    refine (k.out).mono ?_
    rintro e Wi ⟨rfl, hX⟩
    refine ⟨_, rfl, ?_⟩
    simp only [Act.put, List.setIfInBounds_toArray, List.set_cons_zero, List.set_cons_succ]
    have Ri := hideit (Rh.out.ext hX)
    clear k hX Rh
    obtain ⟨sg, hsg0⟩ : ∃ sg, sg = shaF (padF (f6F h) 44) 480 := ⟨_, rfl⟩
    have hsg := hideit (hb_cat h sg hsg0)
    rw [← hsg0]
    clear hsg0
    have D1 := RowAt.new Wi 32 (yv fun _ => 0#8) 52
    have D2 := D1.cells (g' := yv sg)
    have hX : Ext Wi ((Wi.alloc (.cells (row 32 (yv fun _ => 0#8)).toArray 52)).setCells Wi.heap.size 0 (row 32 (yv sg))) := below_setCells Wi.heap.size (Nat.le_refl _) _ 0 _ ((Below.refl _ _).alloc (Nat.le_refl _) _)
    have Rj := hideit (Ri.out.ext hX)
    refine wpList_to rfl (.pointer (some ⟨Wi.heap.size, 0, none⟩)) (Wi.alloc (.cells (row 32 (yv fun _ => 0#8)).toArray 52)) (exec_alloc 52 _ rfl (zero52 Wi)) ?_
    simp only [Act.put, List.setIfInBounds_toArray, List.set_cons_zero, List.set_cons_succ]
    refine wpList_store_mid rfl 52 (.tmp 5) (.tmp 63) rfl Wi.heap.size 0 (row 32 (yv sg)).toArray rfl rfl (by rw [row_size]; exact D1.there) (by rw [row_size]; exact info52) (row_one fun j _ => rfl) ?_
    rw [show (row 32 (yv sg)).toArray.toList = row 32 (yv sg) from rfl]
    replace D2 := hideit D2
    clear hX D1 Ri
    generalize (Wi.alloc (.cells (row 32 (yv fun _ => 0#8)).toArray 52)).setCells Wi.heap.size 0 (row 32 (yv sg)) = Wj at *
    generalize Wi.heap.size = bd at *
    simp only [Act.put]
    go_upto_region 9 with (fail)
    obtain ⟨vk, Wk, hr, Rk, _⟩ := Rj.out.app 28 ⟨bd, 0, none⟩ 32 32 sg (D2.out.lie 32 (Nat.le_refl _)) (by decide)
    refine wp_region_lit ?_
    refine wpList_run rfl (vh) (by simp [go_sem]) ?_
    simp only [Act.put, List.setIfInBounds_toArray, List.set_cons_zero, List.set_cons_succ]
    refine wpList_run rfl (.slice (some ⟨bd, 0, none⟩) 32 32) (by simp [go_sem]) ?_
    simp only [Act.put, List.setIfInBounds_toArray, List.set_cons_zero, List.set_cons_succ]
    refine wpList_to rfl vk Wk (exec_append (.tmp 64) (.tmp 65) 28 28 rfl _ _ _ rfl rfl hr) ?_
    simp only [Act.put, List.setIfInBounds_toArray, List.set_cons_zero, List.set_cons_succ]
    have hB : Hid (BV vk 512 (hbF h) Wk) := hideit (BV.congr_ Rk.1.bv fun j hj => hsg.out j hj)
    have hE9 := hideit (Ext.trans hE1.out Rk.2)
    clear hr Rj Rk D2
    go_wp2
    go_ret2
    exact ⟨_, rfl, hB.out, hE9.out⟩
  have D := hideit (R5.out.ext (Ext.refl w5).draw)
  clear R5
  refine wp_region_held (S := fun X => Ext w1 X) (by kernel_rfl) ?_
  show wpAnyH _ _ _ _ _ 17 _ _ w5.drew
  generalize w5.drew = W0 at *
  refine wpAnyH_take (i := 0) (v := v3) rfl (by kernel_rfl) (by kernel_rfl) (by kernel_rfl) (fun _ _ _ h => h) (.inl ⟨rfl, fun X hX => by simp [go_sem]⟩) D.out.2 ?_
  simp only [List.getElem_toArray, List.getElem_cons_zero, Act.put, List.setIfInBounds_toArray, List.set_cons_zero, List.set_cons_succ]
  refine wpAnyH_take (i := 1) (v := .pointer (some ⟨c, 1, none⟩)) rfl (by kernel_rfl) (by kernel_rfl) (by kernel_rfl) (fun _ _ _ h => h) (.inl ⟨rfl, fun X hX => by simp [go_sem]⟩) D.out.2 ?_
  simp only [List.getElem_toArray, List.getElem_cons_zero, List.getElem_cons_succ, Act.put, List.setIfInBounds_toArray, List.set_cons_zero, List.set_cons_succ]
  refine wpAnyH_take (i := 2) (v := .int .i64 h.se) rfl (by kernel_rfl) (by kernel_rfl) (by kernel_rfl) (fun _ _ _ h => h) (.inl ⟨rfl, fun X hX => by have e : X.cell? ⟨c, 1, none⟩ = some (.int .i64 h.se) := (H1.out.carry hX).1 1 (by decide); simp [go_sem, e]⟩) D.out.2 ?_
  simp only [List.getElem_toArray, List.getElem_cons_zero, List.getElem_cons_succ, Act.put, List.setIfInBounds_toArray, List.set_cons_zero, List.set_cons_succ]
  refine wpAnyH_take (i := 3) (v := .int .u64 ((bI h.se).toNat : Int)) rfl (by kernel_rfl) (by kernel_rfl) (by kernel_rfl) (fun _ _ _ h => h) (.inl ⟨rfl, fun X hX => by simp [go_sem, cse]⟩) D.out.2 ?_
  simp only [List.getElem_toArray, List.getElem_cons_zero, List.getElem_cons_succ, Act.put, List.setIfInBounds_toArray, List.set_cons_zero, List.set_cons_succ]
  refine wpAnyH_take (i := 6) (v := .pointer (some ⟨c, 2, none⟩)) rfl (by kernel_rfl) (by kernel_rfl) (by kernel_rfl) (fun _ _ _ h => h) (.inl ⟨rfl, fun X hX => by simp [go_sem]⟩) D.out.2 ?_
  simp only [List.getElem_toArray, List.getElem_cons_zero, List.getElem_cons_succ, Act.put, List.setIfInBounds_toArray, List.set_cons_zero, List.set_cons_succ]
  refine wpAnyH_take (i := 7) (v := .int .i64 h.sl) rfl (by kernel_rfl) (by kernel_rfl) (by kernel_rfl) (fun _ _ _ h => h) (.inl ⟨rfl, fun X hX => by have e : X.cell? ⟨c, 2, none⟩ = some (.int .i64 h.sl) := (H1.out.carry hX).1 2 (by decide); simp [go_sem, e]⟩) D.out.2 ?_
  simp only [List.getElem_toArray, List.getElem_cons_zero, List.getElem_cons_succ, Act.put, List.setIfInBounds_toArray, List.set_cons_zero, List.set_cons_succ]
  refine wpAnyH_take (i := 8) (v := .int .u8 ((byB (bI h.sl) 0).toNat : Int)) rfl (by kernel_rfl) (by kernel_rfl) (by kernel_rfl) (fun _ _ _ h => h) (.inl ⟨rfl, fun X hX => by simp [go_sem, csl]⟩) D.out.2 ?_
  simp only [List.getElem_toArray, List.getElem_cons_zero, List.getElem_cons_succ, Act.put, List.setIfInBounds_toArray, List.set_cons_zero, List.set_cons_succ]
  refine wpAnyH_take (i := 11) (v := .pointer (some ⟨c, 3, none⟩)) rfl (by kernel_rfl) (by kernel_rfl) (by kernel_rfl) (fun _ _ _ h => h) (.inl ⟨rfl, fun X hX => by simp [go_sem]⟩) D.out.2 ?_
  simp only [List.getElem_toArray, List.getElem_cons_zero, List.getElem_cons_succ, Act.put, List.setIfInBounds_toArray, List.set_cons_zero, List.set_cons_succ]
  refine wpAnyH_take (i := 12) (v := .int .i64 h.jo) rfl (by kernel_rfl) (by kernel_rfl) (by kernel_rfl) (fun _ _ _ h => h) (.inl ⟨rfl, fun X hX => by have e : X.cell? ⟨c, 3, none⟩ = some (.int .i64 h.jo) := (H1.out.carry hX).1 3 (by decide); simp [go_sem, e]⟩) D.out.2 ?_
  simp only [List.getElem_toArray, List.getElem_cons_zero, List.getElem_cons_succ, Act.put, List.setIfInBounds_toArray, List.set_cons_zero, List.set_cons_succ]
  refine wpAnyH_take (i := 13) (v := .int .u64 ((bI h.jo).toNat : Int)) rfl (by kernel_rfl) (by kernel_rfl) (by kernel_rfl) (fun _ _ _ h => h) (.inl ⟨rfl, fun X hX => by simp [go_sem, cjo]⟩) D.out.2 ?_
  simp only [List.getElem_toArray, List.getElem_cons_zero, List.getElem_cons_succ, Act.put, List.setIfInBounds_toArray, List.set_cons_zero, List.set_cons_succ]
  have D0 := D.out
  clear D
  refine wpAnyH_all (rs := [4, 9]) (by kernel_rfl) (by decide) ?_
  intro i hi
  rcases (by simpa using hi : i = 4 ∨ i = 9) with rfl | rfl
  · refine wpOp_call rfl rfl (by simp [go_sem]) ((number_any 4 (bI h.se) W0 (by decide)).mono ?_)
    rintro e W1 ⟨nv, rfl, hN, hX⟩
    obtain ⟨nb, nc, rfl, LN, hnb⟩ := num_lie hN (by decide)
    have D1 := D0.ext hX
    refine ⟨_, rfl, D1.2, ?_⟩
    simp only [List.getElem_toArray, List.getElem_cons_zero, List.getElem_cons_succ, Act.put, List.setIfInBounds_toArray, List.set_cons_zero, List.set_cons_succ]
    clear hX hN D0
    refine wpAnyH_all (rs := [5, 9]) (by kernel_rfl) (by decide) ?_
    intro i hi
    rcases (by simpa using hi : i = 5 ∨ i = 9) with rfl | rfl
    · obtain ⟨v5, W2, hr, D2, hg⟩ := D1.app 28 ⟨nb, 0, none⟩ 4 nc _ LN (by decide)
      refine wpOp_to rfl rfl v5 W2 (exec_append (.tmp 15) (.tmp 19) 28 28 rfl _ _ _ rfl rfl hr) ⟨D2.2, ?_⟩
      simp only [List.getElem_toArray, List.getElem_cons_zero, List.getElem_cons_succ, Act.put, List.setIfInBounds_toArray, List.set_cons_zero, List.set_cons_succ]
      clear hr hg D1 LN
      refine wpAnyH_all (rs := [9]) (by kernel_rfl) (by decide) ?_
      intro i hi
      obtain rfl : i = 9 := by simpa using hi
      have hX : Ext W2 (W2.alloc (.cells #[.int .u8 ((byB (bI h.sl) 0).toNat : Int)] 5)) := (Below.refl _ _).alloc (Nat.le_refl _) _
      have L9 := one_lie W2 (byB (bI h.sl) 0) (byB (bI h.sl)) rfl
      have D3 := D2.ext hX
      refine wpOp_to rfl rfl (.slice (some ⟨W2.heap.size, 0, none⟩) 1 1) (W2.alloc (.cells #[.int .u8 ((byB (bI h.sl) 0).toNat : Int)] 5)) (by simp [go_sem]) ⟨D3.2, ?_⟩
      simp only [List.getElem_toArray, List.getElem_cons_zero, List.getElem_cons_succ, Act.put, List.setIfInBounds_toArray, List.set_cons_zero, List.set_cons_succ]
      clear hX D2
      generalize W2.alloc (.cells #[.int .u8 ((byB (bI h.sl) 0).toNat : Int)] 5) = W3 at *
      generalize W2.heap.size = b9 at *
      refine wpAnyH_all (rs := [10]) (by kernel_rfl) (by decide) ?_
      intro i hi
      obtain rfl : i = 10 := by simpa using hi
      obtain ⟨va, Wa, hr, Ra, _⟩ := D3.app 28 ⟨b9, 0, none⟩ 1 1 _ L9 (by decide)
      refine wpOp_to rfl rfl va Wa (exec_append (.tmp 20) (.tmp 24) 28 28 rfl _ _ _ rfl rfl hr) ⟨Ra.2, ?_⟩
      simp only [List.getElem_toArray, List.getElem_cons_zero, List.getElem_cons_succ, Act.put, List.setIfInBounds_toArray, List.set_cons_zero, List.set_cons_succ]
      clear hr D3 L9
      refine wpAnyH_all (rs := [14]) (by kernel_rfl) (by decide) ?_
      intro i hi
      obtain rfl : i = 14 := by simpa using hi
      refine wpOp_call rfl rfl (by simp [go_sem]) ((number_any 2 (bI h.jo) Wa (by decide)).mono ?_)
      rintro e Wb ⟨nv, rfl, hN, hX⟩
      obtain ⟨mb, mc, rfl, LM, _⟩ := num_lie hN (by decide)
      have Rb := Ra.ext hX
      refine ⟨_, rfl, Rb.2, ?_⟩
      simp only [List.getElem_toArray, List.getElem_cons_zero, List.getElem_cons_succ, Act.put, List.setIfInBounds_toArray, List.set_cons_zero, List.set_cons_succ]
      clear hX hN Ra
      refine wpAnyH_all (rs := [15]) (by kernel_rfl) (by decide) ?_
      intro i hi
      obtain rfl : i = 15 := by simpa using hi
      obtain ⟨vc, Wc, hr, Rc, _⟩ := Rb.app 28 ⟨mb, 0, none⟩ 2 mc _ LM (by decide)
      refine wpOp_to rfl rfl vc Wc (exec_append (.tmp 25) (.tmp 29) 28 28 rfl _ _ _ rfl rfl hr) ⟨Rc.2, ?_⟩
      simp only [List.getElem_toArray, List.getElem_cons_zero, List.getElem_cons_succ, Act.put, List.setIfInBounds_toArray, List.set_cons_zero, List.set_cons_succ]
      clear hr LM Rb
      refine wpAnyH_all (rs := [16]) (by kernel_rfl) (by decide) ?_
      intro i hi
      obtain rfl : i = 16 := by simpa using hi
      refine wpOp_to rfl rfl vc Wc (by simp [go_sem]) ⟨Rc.2, ?_⟩
      simp only [List.getElem_toArray, List.getElem_cons_zero, List.getElem_cons_succ, Act.put, List.setIfInBounds_toArray, List.set_cons_zero, List.set_cons_succ]
      refine wpAnyH_done (by kernel_rfl) ?_ _
      exact hK _ _ _ _ _ _ _ _ _ _ _ _ _ _ _ _ _ _ _ _ _ _ _ _ _ _ _ Rc
    · have hX : Ext W1 (W1.alloc (.cells #[.int .u8 ((byB (bI h.sl) 0).toNat : Int)] 5)) := (Below.refl _ _).alloc (Nat.le_refl _) _
      have L9 := one_lie W1 (byB (bI h.sl) 0) (byB (bI h.sl)) rfl
      have D2 := D1.ext hX
      have hap : ∀ k, v3.ownBlock = some k → W1.heap.size ≠ k := fun k hk => by have := (D1.1.lt k hk).2; omega
      have LN2 := LN.carry hX
      refine wpOp_to rfl rfl (.slice (some ⟨W1.heap.size, 0, none⟩) 1 1) (W1.alloc (.cells #[.int .u8 ((byB (bI h.sl) 0).toNat : Int)] 5)) (by simp [go_sem]) ⟨D2.2, ?_⟩
      simp only [List.getElem_toArray, List.getElem_cons_zero, List.getElem_cons_succ, Act.put, List.setIfInBounds_toArray, List.set_cons_zero, List.set_cons_succ]
      clear hX D1 LN
      generalize W1.alloc (.cells #[.int .u8 ((byB (bI h.sl) 0).toNat : Int)] 5) = W2 at *
      generalize W1.heap.size = b9 at *
      have LN := LN2
      clear LN2
      refine wpAnyH_all (rs := [5]) (by kernel_rfl) (by decide) ?_
      intro i hi
      obtain rfl : i = 5 := by simpa using hi
      obtain ⟨v5, W3, hr, D3, hg⟩ := D2.app 28 ⟨nb, 0, none⟩ 4 nc _ LN (by decide)
      refine wpOp_to rfl rfl v5 W3 (exec_append (.tmp 15) (.tmp 19) 28 28 rfl _ _ _ rfl rfl hr) ⟨D3.2, ?_⟩
      simp only [List.getElem_toArray, List.getElem_cons_zero, List.getElem_cons_succ, Act.put, List.setIfInBounds_toArray, List.set_cons_zero, List.set_cons_succ]
      have L9c := lie_grown L9 hg hap
      clear hr hg D2 LN hap L9
      refine wpAnyH_all (rs := [10]) (by kernel_rfl) (by decide) ?_
      intro i hi
      obtain rfl : i = 10 := by simpa using hi
      obtain ⟨va, Wa, hr, Ra, _⟩ := D3.app 28 ⟨b9, 0, none⟩ 1 1 _ L9c (by decide)
      refine wpOp_to rfl rfl va Wa (exec_append (.tmp 20) (.tmp 24) 28 28 rfl _ _ _ rfl rfl hr) ⟨Ra.2, ?_⟩
      simp only [List.getElem_toArray, List.getElem_cons_zero, List.getElem_cons_succ, Act.put, List.setIfInBounds_toArray, List.set_cons_zero, List.set_cons_succ]
      clear hr D3 L9c
      refine wpAnyH_all (rs := [14]) (by kernel_rfl) (by decide) ?_
      intro i hi
      obtain rfl : i = 14 := by simpa using hi
      refine wpOp_call rfl rfl (by simp [go_sem]) ((number_any 2 (bI h.jo) Wa (by decide)).mono ?_)
      rintro e Wb ⟨nv, rfl, hN, hX⟩
      obtain ⟨mb, mc, rfl, LM, _⟩ := num_lie hN (by decide)
      have Rb := Ra.ext hX
      refine ⟨_, rfl, Rb.2, ?_⟩
      simp only [List.getElem_toArray, List.getElem_cons_zero, List.getElem_cons_succ, Act.put, List.setIfInBounds_toArray, List.set_cons_zero, List.set_cons_succ]
      clear hX hN Ra
      refine wpAnyH_all (rs := [15]) (by kernel_rfl) (by decide) ?_
      intro i hi
      obtain rfl : i = 15 := by simpa using hi
      obtain ⟨vc, Wc, hr, Rc, _⟩ := Rb.app 28 ⟨mb, 0, none⟩ 2 mc _ LM (by decide)
      refine wpOp_to rfl rfl vc Wc (exec_append (.tmp 25) (.tmp 29) 28 28 rfl _ _ _ rfl rfl hr) ⟨Rc.2, ?_⟩
      simp only [List.getElem_toArray, List.getElem_cons_zero, List.getElem_cons_succ, Act.put, List.setIfInBounds_toArray, List.set_cons_zero, List.set_cons_succ]
      clear hr LM Rb
      refine wpAnyH_all (rs := [16]) (by kernel_rfl) (by decide) ?_
      intro i hi
      obtain rfl : i = 16 := by simpa using hi
      refine wpOp_to rfl rfl vc Wc (by simp [go_sem]) ⟨Rc.2, ?_⟩
      simp only [List.getElem_toArray, List.getElem_cons_zero, List.getElem_cons_succ, Act.put, List.setIfInBounds_toArray, List.set_cons_zero, List.set_cons_succ]
      refine wpAnyH_done (by kernel_rfl) ?_ _
      exact hK _ _ _ _ _ _ _ _ _ _ _ _ _ _ _ _ _ _ _ _ _ _ _ _ _ _ _ Rc
  · have hX : Ext W0 (W0.alloc (.cells #[.int .u8 ((byB (bI h.sl) 0).toNat : Int)] 5)) := (Below.refl _ _).alloc (Nat.le_refl _) _
    have L9 := one_lie W0 (byB (bI h.sl) 0) (byB (bI h.sl)) rfl
    have D1 := D0.ext hX
    have hap : ∀ k, v3.ownBlock = some k → W0.heap.size ≠ k := fun k hk => by have := (D0.1.lt k hk).2; omega
    refine wpOp_to rfl rfl (.slice (some ⟨W0.heap.size, 0, none⟩) 1 1) (W0.alloc (.cells #[.int .u8 ((byB (bI h.sl) 0).toNat : Int)] 5)) (by simp [go_sem]) ⟨D1.2, ?_⟩
    simp only [List.getElem_toArray, List.getElem_cons_zero, List.getElem_cons_succ, Act.put, List.setIfInBounds_toArray, List.set_cons_zero, List.set_cons_succ]
    clear hX D0
    generalize W0.alloc (.cells #[.int .u8 ((byB (bI h.sl) 0).toNat : Int)] 5) = W1 at *
    generalize W0.heap.size = b9 at *
    refine wpAnyH_all (rs := [4]) (by kernel_rfl) (by decide) ?_
    intro i hi
    obtain rfl : i = 4 := by simpa using hi
    refine wpOp_call rfl rfl (by simp [go_sem]) ((number_any 4 (bI h.se) W1 (by decide)).mono ?_)
    rintro e W2 ⟨nv, rfl, hN, hX⟩
    obtain ⟨nb, nc, rfl, LN, hnb⟩ := num_lie hN (by decide)
    have D2 := D1.ext hX
    refine ⟨_, rfl, D2.2, ?_⟩
    simp only [List.getElem_toArray, List.getElem_cons_zero, List.getElem_cons_succ, Act.put, List.setIfInBounds_toArray, List.set_cons_zero, List.set_cons_succ]
    have L9b := L9.carry hX
    clear hX hN D1 L9
    refine wpAnyH_all (rs := [5]) (by kernel_rfl) (by decide) ?_
    intro i hi
    obtain rfl : i = 5 := by simpa using hi
    obtain ⟨v5, W3, hr, D3, hg⟩ := D2.app 28 ⟨nb, 0, none⟩ 4 nc _ LN (by decide)
    refine wpOp_to rfl rfl v5 W3 (exec_append (.tmp 15) (.tmp 19) 28 28 rfl _ _ _ rfl rfl hr) ⟨D3.2, ?_⟩
    simp only [List.getElem_toArray, List.getElem_cons_zero, List.getElem_cons_succ, Act.put, List.setIfInBounds_toArray, List.set_cons_zero, List.set_cons_succ]
    have L9c := lie_grown L9b hg hap
    clear hr hg D2 LN hap L9b
    refine wpAnyH_all (rs := [10]) (by kernel_rfl) (by decide) ?_
    intro i hi
    obtain rfl : i = 10 := by simpa using hi
    obtain ⟨va, Wa, hr, Ra, _⟩ := D3.app 28 ⟨b9, 0, none⟩ 1 1 _ L9c (by decide)
    refine wpOp_to rfl rfl va Wa (exec_append (.tmp 20) (.tmp 24) 28 28 rfl _ _ _ rfl rfl hr) ⟨Ra.2, ?_⟩
    simp only [List.getElem_toArray, List.getElem_cons_zero, List.getElem_cons_succ, Act.put, List.setIfInBounds_toArray, List.set_cons_zero, List.set_cons_succ]
    clear hr D3 L9c
    refine wpAnyH_all (rs := [14]) (by kernel_rfl) (by decide) ?_
    intro i hi
    obtain rfl : i = 14 := by simpa using hi
    refine wpOp_call rfl rfl (by simp [go_sem]) ((number_any 2 (bI h.jo) Wa (by decide)).mono ?_)
    rintro e Wb ⟨nv, rfl, hN, hX⟩
    obtain ⟨mb, mc, rfl, LM, _⟩ := num_lie hN (by decide)
    have Rb := Ra.ext hX
    refine ⟨_, rfl, Rb.2, ?_⟩
    simp only [List.getElem_toArray, List.getElem_cons_zero, List.getElem_cons_succ, Act.put, List.setIfInBounds_toArray, List.set_cons_zero, List.set_cons_succ]
    clear hX hN Ra
    refine wpAnyH_all (rs := [15]) (by kernel_rfl) (by decide) ?_
    intro i hi
    obtain rfl : i = 15 := by simpa using hi
    obtain ⟨vc, Wc, hr, Rc, _⟩ := Rb.app 28 ⟨mb, 0, none⟩ 2 mc _ LM (by decide)
    refine wpOp_to rfl rfl vc Wc (exec_append (.tmp 25) (.tmp 29) 28 28 rfl _ _ _ rfl rfl hr) ⟨Rc.2, ?_⟩
    simp only [List.getElem_toArray, List.getElem_cons_zero, List.getElem_cons_succ, Act.put, List.setIfInBounds_toArray, List.set_cons_zero, List.set_cons_succ]
    clear hr LM Rb
    refine wpAnyH_all (rs := [16]) (by kernel_rfl) (by decide) ?_
    intro i hi
    obtain rfl : i = 16 := by simpa using hi
    refine wpOp_to rfl rfl vc Wc (by simp [go_sem]) ⟨Rc.2, ?_⟩
    simp only [List.getElem_toArray, List.getElem_cons_zero, List.getElem_cons_succ, Act.put, List.setIfInBounds_toArray, List.set_cons_zero, List.set_cons_succ]
    refine wpAnyH_done (by kernel_rfl) ?_ _
    exact hK _ _ _ _ _ _ _ _ _ _ _ _ _ _ _ _ _ _ _ _ _ _ _ _ _ _ _ Rc
end Go.Proofs.YtenlokmoijeehaaDoor
