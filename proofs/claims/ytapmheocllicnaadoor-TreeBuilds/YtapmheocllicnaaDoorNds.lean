/-
  The nodes over children: made, and filled.
-/
import Derived.Test.YtapmheocllicnaaDoorPth
import Derived.Test.YtapmheocllicnaaDoorRh
import Derived.Laws.MakeOwn
namespace Go.Proofs.YtapmheocllicnaaDoor
open Go.RowKit Go.BigFrame
theorem exec_made {P : Program} {o : Oper} {a : Act} {w : World} (t e : TypeId) (x y : Operand) (ho : o.op = .makeSlice t x y) (z : Value) (size bytes n : Nat) (hu : P.underlying t = some (.slice e)) (hi : (P.info? e).map (fun i => (i.zero, i.size, i.bytes)) = some (some z, size, bytes))
    (hx : a.eval x = .int .i64 (n : Int)) (hy : a.eval y = .int .i64 (n : Int)) (hb : bytes * n ≤ 140737488355328) (hn : n ≤ 140737488355328) : (execOp a.eval o).run P w = .ok (.value (.slice (some ⟨w.heap.size, 0, none⟩) n n)) (w.alloc (.cells (madeCells z.cells (n * size)) e)) := by
  obtain ⟨ti, hi1, hi2, hi3, hi4⟩ := info_parts hi
  have h9 : ((bytes * n : Nat) : Int) ≤ 281474976710656 := by omega
  rw [Int.natCast_mul] at h9
  have hr := run_make (P := P) w t e ti z hu hi1 hi2 .i64 .i64 n n (by omega) (Int.le_refl _) (by rw [hi4]; exact h9) (by omega)
  rw [hi3] at hr
  simp only [Int.toNat_natCast] at hr
  unfold execOp
  simp only [ho, hx, hy, hr, Sem.run_bind, Sem.run_pure, Result.andThen_ok]
theorem made_at (z : Array Value) (n : Nat) (u : Value) (hz : ∀ k, k < z.size → z[k]! = u) (h0 : 0 < z.size) (j : Nat) (hj : j < n) : (madeCells z n)[j]? = some u := by
  unfold madeCells
  rw [Array.getElem?_map, Array.getElem?_range, if_pos hj]
  exact congrArg some (hz _ (Nat.mod_lt _ h0))
theorem infoN : (Tryd.prog.info? 23).map (fun i => (i.zero, i.size, i.bytes)) = some (some (.slice none 0 0), 1, 24) := by kernel_rfl
theorem infoB : (Tryd.prog.info? 5).map (fun i => (i.zero, i.size, i.bytes)) = some (some (.int .u8 0), 1, 1) := by kernel_rfl
theorem infoA : (Tryd.prog.info? 25).map (fun i => (i.zero, i.size, i.bytes)) = some (some (.agg (row 32 (yv fun _ => 0#8)).toArray), 32, 32) := by kernel_rfl
def ndV (B i : Nat) : Value := .slice (some ⟨B + 1 + i, 0, none⟩) 512 512
/-- digests, one behind the other -/
def lfV (d : Nat → Nat → BitVec 8) (j : Nat) : Value := yv (d (j / 32)) (j % 32)
/-- a list of digests -/
def LV (v : Value) (n : Nat) (d : Nat → Nat → BitVec 8) (w : World) : Prop := (v = .slice none 0 0 ∧ n = 0) ∨ ∃ a cap, v = .slice (some a) n cap ∧ n ≤ cap ∧ LieAt a (n * 32) (lfV d) w
theorem LV.ext {v : Value} {n : Nat} {d : Nat → Nat → BitVec 8} {w X : World} (h : LV v n d w) (k : Ext w X) : LV v n d X := by
  rcases h with h | ⟨a, cap, h1, h2, h3⟩
  · exact .inl h
  · exact .inr ⟨a, cap, h1, h2, h3.carry k⟩
theorem LV.form {v : Value} {n : Nat} {d : Nat → Nat → BitVec 8} {w : World} (h : LV v n d w) : ∃ ov cap, v = .slice ov n cap := by
  rcases h with ⟨rfl, rfl⟩ | ⟨a, cap, rfl, _⟩
  · exact ⟨_, _, rfl⟩
  · exact ⟨_, _, rfl⟩
theorem lf_row (d : Nat → Nat → BitVec 8) (i j : Nat) (hj : j < 32) : lfV d (i * 32 + j) = yv (d i) j := by
  unfold lfV
  rw [show (i * 32 + j) / 32 = i by omega, show (i * 32 + j) % 32 = j by omega]
theorem lie_leaf {a : Addr} {n : Nat} {d : Nat → Nat → BitVec 8} {w : World} (h : LieAt a (n * 32) (lfV d) w) (i : Nat) (hi : i < n) : LieAt (a.add (i * 32)) 32 (yv (d i)) w := by
  have h1 := lie_at h (i * 32) 32 (by omega)
  exact ⟨fun j hj => (h1.1 j hj).trans (congrArg some (lf_row d i j hj)), h1.2⟩
/-- what a node holds, so many children being filled in -/
def nodeC (d : Nat → Nat → BitVec 8) (m i j : Nat) : BitVec 8 := if 16 * i + j / 32 < m then d (16 * i + j / 32) (j % 32) else 0#8
theorem nodeC_succ (d : Nat → Nat → BitVec 8) (m i j : Nat) (hj : j < 512) : nodeC d (m + 1) i j = if i = m / 16 then putF (nodeC d m i) (m % 16) (d m) j else nodeC d m i j := by
  unfold nodeC putF
  by_cases h1 : i = m / 16
  · rw [if_pos h1]
    by_cases h2 : 32 * (m % 16) ≤ j ∧ j < 32 * (m % 16) + 32
    · rw [if_pos h2, if_pos (by omega), show 16 * i + j / 32 = m by omega, show j % 32 = j - 32 * (m % 16) by omega]
    · rw [if_neg h2]
      show _ = if 16 * i + j / 32 < m then _ else _
      by_cases h3 : 16 * i + j / 32 < m
      · rw [if_pos (by omega), if_pos h3]
      · rw [if_neg (by omega), if_neg h3]
  · rw [if_neg h1]
    by_cases h3 : 16 * i + j / 32 < m
    · rw [if_pos (by omega), if_pos h3]
    · rw [if_neg (by omega), if_neg h3]
/-- nodes in memory -/
structure NS (w : World) (cnt : Nat) (f : Nat → Nat → BitVec 8) (W : World) : Prop where
  ext : Ext w W
  list : RowAt w.heap.size cnt (ndV w.heap.size) W
  each : ∀ i, i < cnt → RowAt (w.heap.size + 1 + i) 512 (yv (f i)) W
theorem NS.carry {w : World} {cnt : Nat} {f : Nat → Nat → BitVec 8} {W Y : World} (h : NS w cnt f W) (k : Ext W Y) : NS w cnt f Y := ⟨Ext.trans h.ext k, h.list.carry k, fun i hi => (h.each i hi).carry k⟩
theorem NS.congr {w : World} {cnt : Nat} {f f' : Nat → Nat → BitVec 8} {W : World} (h : NS w cnt f W) (e : ∀ i, i < cnt → ∀ j, j < 512 → f i j = f' i j) : NS w cnt f' W :=
  ⟨h.ext, h.list, fun i hi => (h.each i hi).congr fun j hj => by unfold yv; rw [e i hi j hj]⟩
theorem NS.turned {w : World} {cnt i0 : Nat} {f : Nat → Nat → BitVec 8} {b : Nat → BitVec 8} {W Y : World} (h : NS w cnt f W) (hB : But (w.heap.size + 1 + i0) W Y) (hi : RowAt (w.heap.size + 1 + i0) 512 (yv b) Y) : NS w cnt (fun i => if i = i0 then b else f i) Y :=
  ⟨Ext.but h.ext hB (by omega), h.list.but hB (by omega), fun i hlt => by
    by_cases e : i = i0
    · subst e
      simp only [if_true]
      exact hi
    · simp only [e, if_false]
      exact (h.each i hlt).but hB (by omega)⟩
/-- half way: so many nodes are made -/
structure NH (w : World) (cnt m : Nat) (W : World) : Prop where
  ext : Ext w W
  size : W.heap.size = w.heap.size + 1 + m
  list : RowAt w.heap.size cnt (fun i => if i < m then ndV w.heap.size i else .slice none 0 0) W
  each : ∀ i, i < m → RowAt (w.heap.size + 1 + i) 512 (yv fun _ => 0#8) W
theorem add0 (b i : Nat) : (⟨b, 0, none⟩ : Addr).add i = ⟨b, i, none⟩ := by unfold Addr.add; split <;> simp_all
set_option maxRecDepth 20000 in
set_option maxHeartbeats 4000000 in
theorem nodes_any (v : Value) (n cnt : Nat) (d : Nat → Nat → BitVec 8) (w : World) (hL : LV v n d w) (hn : n ≤ 16 * cnt) (hc : cnt ≤ 256) :
    Calls Tryd.prog 26 #[v, .int .i64 (cnt : Int)] w fun e w' => e = .returned (.slice (some ⟨w.heap.size, 0, none⟩) cnt cnt) ∧ NS w cnt (nodeC d n) w' := by
  obtain ⟨ov, cap, rfl⟩ := hL.form
  replace hL := hideit hL
  have hmade := fun j hj => made_at (Value.slice none 0 0).cells (cnt * 1) (.slice none 0 0) (fun k hk => by
    have : k = 0 := by simpa [Value.cells] using hk
    subst this
    rfl) (by decide) j hj
  have H0 : NH w cnt 0 (w.alloc (.cells (madeCells (Value.slice none 0 0).cells (cnt * 1)) 23)) := ⟨(Below.refl _ _).alloc (Nat.le_refl _) _, by simp, RowAt.newOf w cnt _ 23 _ (fun j hj => by rw [if_neg (by omega)]; exact hmade j (by omega)), fun i hi => absurd hi (by omega)⟩
  replace H0 := hideit H0
  clear hmade
  go_enter Tryd.func26, Tryd.ntmps26
  go_upto_region 1 with (fail)
  refine wp_region_lit ?_
  refine wpList_run rfl (.int .i64 (cnt : Int)) (by simp [go_sem]) ?_
  simp only [Act.put, List.setIfInBounds_toArray, List.set_cons_zero, List.set_cons_succ]
  refine wpList_to rfl (.slice (some ⟨w.heap.size, 0, none⟩) cnt cnt) (w.alloc (.cells (madeCells (Value.slice none 0 0).cells (cnt * 1)) 23)) (exec_made 33 23 (.tmp 9) (.tmp 9) rfl _ 1 24 cnt Tryd.underlying33 infoN rfl rfl (by omega) (by omega)) ?_
  simp only [Act.put, List.setIfInBounds_toArray, List.set_cons_zero, List.set_cons_succ]
  generalize w.alloc (.cells (madeCells (Value.slice none 0 0).cells (cnt * 1)) 23) = w1 at *
  go_wp2
  go_loopw [12] (fun iv X => ∃ m : Nat, m ≤ cnt ∧ iv = .int .i64 (m : Int) ∧ NH w cnt m X) (fun iv _ => cnt - (intOf iv).toNat)
  case atStart => exact ⟨0, Nat.zero_le _, rfl, H0.out⟩
  case round =>
    clear H0
    obtain ⟨m, hm, rfl, hN⟩ := hrel
    replace hN := hideit hN
    by_cases hlt : m < cnt
    · have m0 : (0 : Int) ≤ (m : Int) := by omega
      have m1 : (m : Int) < (cnt : Int) := by omega
      go_upto_region 5 with (fail)
      have hmb := fun j hj => made_at (Value.int .u8 0).cells (512 * 1) (.int .u8 0) (fun k hk => by
        have : k = 0 := by simpa [Value.cells] using hk
        subst this
        rfl) (by decide) j hj
      have hR := RowAt.newOf wr 512 (yv fun _ => 0#8) 5 (madeCells (Value.int .u8 0).cells (512 * 1)) (fun j hj => hmb j (by omega))
      have hX : Ext wr (wr.alloc (.cells (madeCells (Value.int .u8 0).cells (512 * 1)) 5)) := (Below.refl _ _).alloc (Nat.le_refl _) _
      have hsz : (wr.alloc (.cells (madeCells (Value.int .u8 0).cells (512 * 1)) 5)).heap.size = wr.heap.size + 1 := by simp
      refine wp_region_lit ?_
      refine wpList_run rfl (.slice (some ⟨w.heap.size, 0, none⟩) cnt cnt) (by simp [go_sem]) ?_
      simp only [Act.put, List.setIfInBounds_toArray, List.set_cons_zero, List.set_cons_succ]
      refine wpList_run rfl (.int .i64 (m : Int)) (by simp [go_sem]) ?_
      simp only [Act.put, List.setIfInBounds_toArray, List.set_cons_zero, List.set_cons_succ]
      refine wpList_to rfl (.slice (some ⟨wr.heap.size, 0, none⟩) 512 512) (wr.alloc (.cells (madeCells (Value.int .u8 0).cells (512 * 1)) 5)) (exec_made 23 5 (.const (.int .i64 512)) (.const (.int .i64 512)) rfl _ 1 1 512 Tryd.underlying23 infoB rfl rfl (by decide) (by decide)) ?_
      simp only [Act.put, List.setIfInBounds_toArray, List.set_cons_zero, List.set_cons_succ]
      generalize wr.alloc (.cells (madeCells (Value.int .u8 0).cells (512 * 1)) 5) = w2 at *
      have e0 := hN.out.size
      have hL2 := hideit (hN.out.list.carry hX)
      have hE2 := hideit (fun i hi => (hN.out.each i hi).carry hX)
      have hX2 := hideit (Ext.trans hN.out.ext hX)
      rw [e0] at hR hsz ⊢
      replace hR := hideit hR
      clear hX hmb hN e0
      refine wpList_run rfl (.pointer (some ⟨w.heap.size, m, none⟩)) (by simp [go_sem, m0, m1]) ?_
      simp only [Act.put, List.setIfInBounds_toArray, List.set_cons_zero, List.set_cons_succ]
      have e1 := hL2.out.1 m hlt
      have e2 := hL2.out.2.1 m hlt
      refine wpList_st rfl (w2.setCell ⟨w.heap.size, m, none⟩ (.slice (some ⟨w.heap.size + 1 + m, 0, none⟩) 512 512)) (by simp [go_sem, e1, e2]) ?_
      have H3 : NH w cnt (m + 1) (w2.setCell ⟨w.heap.size, m, none⟩ (.slice (some ⟨w.heap.size + 1 + m, 0, none⟩) 512 512)) :=
        ⟨Below.setCell (p := ⟨w.heap.size, m, none⟩) hX2.out (Nat.le_refl _) _, by
          have : (w2.setCell ⟨w.heap.size, m, none⟩ (.slice (some ⟨w.heap.size + 1 + m, 0, none⟩) 512 512)).heap.size = w2.heap.size := by
            show (w2.heap.modify _ _).size = _
            rw [Array.size_modify]
          rw [this]; omega, (hL2.out.set m _).congr fun j hj => by
          by_cases h : j = m
          · rw [if_pos h, if_pos (by omega), h]; rfl
          · rw [if_neg h]
            by_cases h' : j < m
            · rw [if_pos h', if_pos (by omega)]
            · rw [if_neg h', if_neg (by omega)], fun i hi => by
          rcases (by omega : i < m ∨ i = m) with h | rfl
          · exact (hE2.out i h).other _ _ (by show w.heap.size ≠ w.heap.size + 1 + i; omega)
          · exact hR.out.other _ _ (by show w.heap.size ≠ w.heap.size + 1 + i; omega)⟩
      replace H3 := hideit H3
      generalize w2.setCell ⟨w.heap.size, m, none⟩ (.slice (some ⟨w.heap.size + 1 + m, 0, none⟩) 512 512) = w3 at *
      clear hR hL2 hE2 hX2 e1 e2 hsz
      simp only [Act.put]
      go_wp2
      exact ⟨⟨m + 1, by omega, by go_num, H3.out⟩, by simp [intOf]; omega⟩
    · obtain rfl : m = cnt := by omega
      have m1 : ¬ (m : Int) < (m : Int) := by omega
      have HS0 : NS w m (nodeC d 0) wr := ⟨hN.out.ext, hN.out.list.congr fun j hj => by rw [if_pos hj], fun i hi => (hN.out.each i hi).congr fun j hj => rfl⟩
      replace HS0 := hideit HS0
      clear hN
      go_wp2
      go_loopw [22] (fun iv X => ∃ q : Nat, q ≤ n ∧ iv = .int .i64 (q : Int) ∧ NS w m (nodeC d q) X) (fun iv _ => n - (intOf iv).toNat)
      case atStart => exact ⟨0, Nat.zero_le _, rfl, HS0.out⟩
      case round =>
        clear HS0
        obtain ⟨q, hq, rfl, hN⟩ := hrel
        replace hN := hideit hN
        by_cases hlt : q < n
        · have q0 : (0 : Int) ≤ (q : Int) := by omega
          have q1 : (q : Int) < (n : Int) := by omega
          obtain ⟨a, rfl, hla⟩ : ∃ a, ov = some a ∧ LieAt a (n * 32) (lfV d) w := by
            rcases hL.out with ⟨h, h0⟩ | ⟨a, cap', h, _, h3⟩
            · omega
            · injection h with e1 e2 e3
              exact ⟨a, e1, h3⟩
          replace hla := hideit hla
          go_upto_region 9 with (fail)
          have hz := zero24
          have C6 := RowAt.new wr 32 (yv fun _ => 0#8) 25
          have hX : Ext wr (wr.alloc (.cells (row 32 (yv fun _ => 0#8)).toArray 25)) := (Below.refl _ _).alloc (Nat.le_refl _) _
          have C7 := hideit (C6.cells (g' := yv (d q)))
          have hbw : w.heap.size + 1 + m ≤ wr.heap.size := by
            rcases (by omega : m = 0 ∨ 0 < m) with h | h
            · have := hN.out.list.2.2; omega
            · have := (hN.out.each (m - 1) (by omega)).2.2; omega
          have hNX := below_setCells (w := wr) wr.heap.size (Nat.le_refl _) (row 32 (yv (d q))) 0 _ hX
          have HN7 := hideit (hN.out.carry hNX)
          refine wp_region_lit ?_
          refine wpList_run rfl (.int .i64 (q : Int)) (by simp [go_sem]) ?_
          simp only [Act.put, List.setIfInBounds_toArray, List.set_cons_zero, List.set_cons_succ]
          refine wpList_run rfl (.pointer (some (a.add (q * 32)))) (by simp [go_sem, q0, q1]) ?_
          simp only [Act.put, List.setIfInBounds_toArray, List.set_cons_zero, List.set_cons_succ]
          refine wpList_run rfl (.agg (row 32 (yv (d q))).toArray) (exec_loadL 25 (.tmp 25) rfl (a.add (q * 32)) 32 _ rfl (lie_leaf (hla.out.carry hN.out.ext) q hlt) Tryd.underlying25 rfl info24) ?_
          simp only [Act.put, List.setIfInBounds_toArray, List.set_cons_zero, List.set_cons_succ]
          refine wpList_to rfl (.pointer (some ⟨wr.heap.size, 0, none⟩)) (wr.alloc (.cells (row 32 (yv fun _ => 0#8)).toArray 25)) (by simp [go_sem, hz]) ?_
          simp only [Act.put, List.setIfInBounds_toArray, List.set_cons_zero, List.set_cons_succ]
          refine wpList_run rfl (.int .i64 (q : Int)) (by simp [go_sem]) ?_
          simp only [Act.put, List.setIfInBounds_toArray, List.set_cons_zero, List.set_cons_succ]
          refine wpList_store_mid rfl 25 (.tmp 8) (.tmp 26) rfl _ 0 (row 32 (yv (d q))).toArray rfl rfl (by rw [row_size]; exact C6.there) (by rw [row_size]; exact info24) (row_one fun _ _ => rfl) ?_
          rw [show (row 32 (yv (d q))).toArray.toList = row 32 (yv (d q)) from rfl]
          generalize (wr.alloc (.cells (row 32 (yv fun _ => 0#8)).toArray 25)).setCells wr.heap.size 0 (row 32 (yv (d q))) = w7 at *
          generalize wr.heap.size = cb at *
          clear hX hNX C6 hN
          simp only [Act.put]
          go_upto_region 10 with (fail)
          have hdr : Ext w7 w7.drew := (Ext.refl w7).draw
          have HN8 := hideit (HN7.out.carry hdr)
          have C8 := hideit (C7.out.carry hdr)
          obtain ⟨i0, hi0⟩ : ∃ i0, i0 = q / 16 := ⟨_, rfl⟩
          obtain ⟨p0, hp0⟩ : ∃ p0, p0 = q % 16 := ⟨_, rfl⟩
          have ei : Int.tdiv (q : Int) 16 = (i0 : Int) := by rw [hi0, Int.tdiv_eq_ediv_of_nonneg (by omega)]; omega
          have ep : Int.tmod (q : Int) 16 = (p0 : Int) := by rw [hp0, Int.tmod_eq_emod_of_nonneg (by omega)]; omega
          have ew : IntKind.i64.wrap (i0 : Int) = (i0 : Int) := by rw [IntKind.wrap_i64]; omega
          have i1 : (i0 : Int) < (m : Int) := by omega
          have i2 : i0 < m := by omega
          have p1 : p0 < 16 := by omega
          clear HN7 C7 hdr
          refine wp_region_lad (fun X => RowAt w.heap.size m (ndV w.heap.size) X ∧ RowAt cb 32 (yv (d q)) X) [(false, 0), (false, 1), (false, 2), (false, 3), (false, 4), (false, 5), (false, 6), (false, 7), (true, 8)] (by kernel_rfl) (by kernel_rfl) (by decide +kernel) (by decide +kernel) (by decide +kernel) (by decide +kernel) ⟨HN8.out.list, C8.out⟩ ?_
          refine wpX_f _ (.slice (some ⟨w.heap.size, 0, none⟩) m m) rfl rfl (fun X _ => by simp [go_sem]) ?_
          simp only [List.getElem_toArray, List.getElem_cons_zero, Act.put, List.setIfInBounds_toArray, List.set_cons_zero, List.set_cons_succ]
          refine wpX_f _ (.int .i64 (q : Int)) rfl rfl (fun X _ => by simp [go_sem]) ?_
          simp only [List.getElem_toArray, List.getElem_cons_zero, List.getElem_cons_succ, Act.put, List.setIfInBounds_toArray, List.set_cons_zero, List.set_cons_succ]
          refine wpX_f _ (.int .i64 (i0 : Int)) rfl rfl (fun X _ => by simp [go_sem, ei, ew]) ?_
          simp only [List.getElem_toArray, List.getElem_cons_zero, List.getElem_cons_succ, Act.put, List.setIfInBounds_toArray, List.set_cons_zero, List.set_cons_succ]
          refine wpX_f _ (.pointer (some ⟨w.heap.size, i0, none⟩)) rfl rfl (fun X _ => by simp [go_sem, i1]) ?_
          simp only [List.getElem_toArray, List.getElem_cons_zero, List.getElem_cons_succ, Act.put, List.setIfInBounds_toArray, List.set_cons_zero, List.set_cons_succ]
          refine wpX_f _ (.slice (some ⟨w.heap.size + 1 + i0, 0, none⟩) 512 512) rfl rfl (fun X hX => by have e := hX.1.1 i0 i2; simp [go_sem, e, ndV]) ?_
          simp only [List.getElem_toArray, List.getElem_cons_zero, List.getElem_cons_succ, Act.put, List.setIfInBounds_toArray, List.set_cons_zero, List.set_cons_succ]
          refine wpX_f _ (.int .i64 (q : Int)) rfl rfl (fun X _ => by simp [go_sem]) ?_
          simp only [List.getElem_toArray, List.getElem_cons_zero, List.getElem_cons_succ, Act.put, List.setIfInBounds_toArray, List.set_cons_zero, List.set_cons_succ]
          refine wpX_f _ (.int .i64 (p0 : Int)) rfl rfl (fun X _ => by simp [go_sem, ep]) ?_
          simp only [List.getElem_toArray, List.getElem_cons_zero, List.getElem_cons_succ, Act.put, List.setIfInBounds_toArray, List.set_cons_zero, List.set_cons_succ]
          refine wpX_f _ (.agg (row 32 (yv (d q))).toArray) rfl rfl (fun X hX => exec_loadR 25 (.tmp 8) rfl cb 0 32 _ rfl hX.2.range Tryd.underlying25 rfl info24) ?_
          simp only [List.getElem_toArray, List.getElem_cons_zero, List.getElem_cons_succ, Act.put, List.setIfInBounds_toArray, List.set_cons_zero, List.set_cons_succ]
          refine wpX_call _ rfl rfl (by simp [go_sem]) ((set_any (w.heap.size + 1 + i0) 512 p0 (nodeC d q i0) (d q) w7.drew p1 (Nat.le_refl _) (HN8.out.each i0 i2)).mono ?_)
          rintro e w9 ⟨rfl, hR9, hB9⟩
          have hcb : w.heap.size + 1 + i0 ≠ cb := by have := (HN8.out.each i0 i2).2.2; omega
          refine ⟨_, rfl, fun X => RowAt w.heap.size m (ndV w.heap.size) X ∧ RowAt cb 32 (yv (d q)) X, fun X hX => hX, ⟨HN8.out.list.but hB9 (by omega), C8.out.but hB9 (Ne.symm hcb)⟩, ?_⟩
          simp only [List.getElem_toArray, List.getElem_cons_zero, List.getElem_cons_succ, Act.put, List.setIfInBounds_toArray, List.set_cons_zero, List.set_cons_succ]
          refine wpX_nil ?_
          have H9 : NS w m (nodeC d (q + 1)) w9 := (HN8.out.turned hB9 hR9).congr fun i hi j hj => by
            rw [nodeC_succ d q i j hj, ← hi0, ← hp0]
            by_cases h : i = i0
            · rw [if_pos h, if_pos h, h]
            · rw [if_neg h, if_neg h]
          replace H9 := hideit H9
          clear HN8 C8 hB9 hR9 hi0 hp0 ei ep ew
          go_wp2
          exact ⟨⟨q + 1, by omega, by go_num, H9.out⟩, by simp [intOf]; omega⟩
        · obtain rfl : q = n := by omega
          have q1 : ¬ (q : Int) < (q : Int) := by omega
          go_wp2
          go_ret
          exact ⟨rfl, hN.out⟩
end Go.Proofs.YtapmheocllicnaaDoor
