/-
  What math/bits.Mul answers of one and a number; slices.Repeat of one slice.
-/
import Derived.Test.YtfaeieaelfjlpaaDk10
import Derived.Laws.MakeOwn
namespace Go.Proofs.Ytfaeieaelfjlpaa
open Go.RowKit Go.BigFrame Go.Maps
theorem exec_made {P : Program} {o : Oper} {a : Act} {w : World} (t e : TypeId) (x y : Operand) (ho : o.op = .makeSlice t x y) (z : Value) (size bytes n : Nat) (hu : P.underlying t = some (.slice e)) (hi : (P.info? e).map (fun i => (i.zero, i.size, i.bytes)) = some (some z, size, bytes))
    (hx : a.eval x = .int .i64 (n : Int)) (hy : a.eval y = .int .i64 (n : Int)) (hb : bytes * n ≤ 140737488355328) (hn : n ≤ 140737488355328) : (execOp a.eval o).run P w = .ok (.value (.slice (some ⟨w.heap.size, 0, none⟩) n n)) (w.alloc (.cells (madeCells z.cells (n * size)) e)) := by
  obtain ⟨ti, hi1, hi2, hi3, hi4⟩ := info_parts hi
  have h9 : ((bytes * n : Nat) : Int) ≤ 281474976710656 := by omega
  rw [Int.natCast_mul] at h9
  have hr := run_make (P := P) w t e ti z hu hi1 hi2 .i64 .i64 n n (by omega) (Int.le_refl _) (by rw [hi4]; exact h9) (by omega)
  rw [hi3] at hr
  simp only [Int.toNat_natCast] at hr
  unfold execOp
  simp only [ho, hx, hy, hr, Sem.run_bind, Sem.run_pure, Result.andThen_ok]
theorem made_at (z : Array Value) (n : Nat) (u : Value) (hz : ∀ k, k < z.size → z[k]! = u) (h0 : 0 < z.size) (j : Nat) (hj : j < n) : (madeCells z n)[j]? = some u := by
  unfold madeCells
  rw [Array.getElem?_map, Array.getElem?_range, if_pos hj]
  exact congrArg some (hz _ (Nat.mod_lt _ h0))
theorem info31 : (Try.prog.info? 31).map (fun i => (i.zero, i.size, i.bytes)) = some (some (.slice none 0 0), 1, 24) := by kernel_rfl
theorem info5 : (Try.prog.info? 5).map (fun i => (i.zero, i.size, i.bytes)) = some (some (.int .u8 0), 1, 1) := by kernel_rfl
theorem size31 : (Try.prog.info? 31).map (·.size) = some 1 := by kernel_rfl
theorem add0 (b i : Nat) : (⟨b, 0, none⟩ : Addr).add i = ⟨b, i, none⟩ := by unfold Addr.add; split <;> simp_all
theorem and_low (c : Nat) (h : c ≤ 4096) : bits .and .u64 (c : Int) 4294967295 = (c : Int) := by
  have := u64_and_nat c 4294967295 (by omega) (by decide)
  rw [show ((4294967295 : Nat) : Int) = 4294967295 from rfl] at this
  rw [this]
  congr 1
  rw [show 4294967295 = 2 ^ 32 - 1 from rfl, Nat.and_two_pow_sub_one_eq_mod]
  omega
theorem and_one : bits .and .u64 1 4294967295 = 1 := and_low 1 (by decide)
theorem and_zero : bits .and .u64 0 4294967295 = 0 := and_low 0 (by decide)
theorem mul64_one (c : Nat) (h : c ≤ 4096) (w : World) : Calls Try.prog 52 #[.int .u64 1, .int .u64 (c : Int)] w fun e w' => e = .returned (.tuple #[.int .u64 0, .int .u64 (c : Int)]) ∧ w' = w := by
  have a1 := and_one
  have a2 := and_low c h
  have a3 := and_zero
  have a4 : (c : Int) / 4294967296 = 0 := by omega
  go_enter Try.func52, Try.ntmps52
  go_wp2
  go_ret2
  exact ⟨rfl, rfl⟩
theorem mul_one (c : Nat) (h : c ≤ 4096) (w : World) : Calls Try.prog 44 #[.int .u64 1, .int .u64 (c : Int)] w fun e w' => e = .returned (.tuple #[.int .u64 0, .int .u64 (c : Int)]) ∧ w' = w := by
  have k := hideit (mul64_one c h w)
  go_enter Try.func44, Try.ntmps44
  go_wp2_with (go_at_call 52; refine k.out.mono ?_; rintro e w9 ⟨rfl, hw9⟩; rw [hw9]; clear hw9)
  go_ret2
  exact ⟨rfl, rfl⟩
/-- a row of slices -/
def Is31 (b : Nat) (W : World) : Prop := ∃ cur fz, W.heap[b]? = some (.cells cur 31 fz)
theorem Is31.set {b : Nat} {W : World} (h : Is31 b W) (p : Addr) (v : Value) : Is31 b (W.setCell p v) := by
  obtain ⟨c, z, h1⟩ := h
  unfold Is31 World.setCell
  simp only [Array.getElem?_modify, h1]
  by_cases hp : p.block = b
  · rw [if_pos hp]
    exact ⟨_, _, rfl⟩
  · rw [if_neg hp]
    exact ⟨_, _, rfl⟩
theorem Is31.sets {b : Nat} : ∀ (vs : List Value) (o : Nat) (W : World) (c : Nat), Is31 b W → Is31 b (W.setCells c o vs)
  | [], _, _, _, h => h
  | v :: r, o, W, c, h => by rw [World.setCells]; exact Is31.sets r (o + 1) _ c (h.set _ v)
theorem Is31.notB {b : Nat} {W : World} (h : Is31 b W) : ¬ IsB b W := fun ⟨cur, fz, h1⟩ => by
  obtain ⟨c, z, h2⟩ := h
  rw [h1] at h2
  injection h2 with h2
  injection h2 with _ h3
  exact absurd h3 (by decide)
theorem Is31.ext {b : Nat} {W Y : World} (h : Is31 b W) (k : Ext W Y) : Is31 b Y := by
  obtain ⟨c, z, h1⟩ := h
  exact ⟨c, z, (Below.block k b (Array.getElem?_eq_some_iff.1 h1).1).trans h1⟩
theorem exec_copyR {P : Program} {o : Oper} {a : Act} {w : World} (d s : Operand) (dT sT : TypeId) (ho : o.op = .call { callee := .builtin .copy, args := #[d, s], argTypes := #[dT, sT] }) (elem : TypeId) (hu : P.underlying dT = some (.slice elem)) (hsz : (P.info? elem).map (·.size) = some 1)
    (b n : Nat) (g : Nat → Value) (hR : RowAt b n g w) (off dLen dCap : Nat) (ad : Addr) (sLen sCap : Nat) (hd : a.eval d = .slice (some ⟨b, off, none⟩) dLen dCap) (hs : a.eval s = .slice (some ad) sLen sCap)
    (m : Nat) (u : Nat → Value) (hn : m = Nat.min sLen dLen) (hsrc : ∀ j, j < m → w.cell? (ad.add j) = some (u j)) (hfit : off + m ≤ n) (h1 : ∀ j, j < m → (u j).oneCell' = true) :
    (execOp a.eval o).run P w = .ok (.value (goInt m)) (w.setCells b off (row m u)) := by
  have hrun := run_copy_cells (P := P) w dT sT o.type elem b off dLen dCap ad sLen sCap (row m u) hu hsz (by rw [row_length]; exact hn) (fun j v hv => by obtain ⟨hj, rfl⟩ := row_some hv; exact hsrc j hj)
    (fun j hj => by rw [row_length] at hj; rw [hR.1 (off + j) (by omega)]; rfl) (fun j hj => by rw [row_length] at hj; exact hR.2.1 (off + j) (by omega)) (fun v hv => by
      obtain ⟨j, hj, rfl⟩ := List.mem_map.1 hv
      exact h1 j (by simpa using hj))
  rw [row_length] at hrun
  simp [execOp, ho, resolve, invoke, builtin, hd, hs, hrun, Result.andThen]
/-- m of c slices are there -/
def rpV (u : Value) (m : Nat) (j : Nat) : Value := if j < m then u else .slice none 0 0
structure RpS (w : World) (c : Nat) (u : Value) (m : Nat) (X : World) : Prop where
  ext : Ext w X
  row : RowAt w.heap.size c (rpV u m) X
  is : Is31 w.heap.size X
theorem RpS.copied {w : World} {c m q : Nat} {u : Value} {X : World} (h : RpS w c u m X) (hq : m + q ≤ c) : RpS w c u (m + q) (X.setCells w.heap.size m (Go.Proofs.Ytfaeieaelfjlpaa.row q fun _ => u)) :=
  ⟨below_setCells (w := w) w.heap.size (Nat.le_refl _) (Go.Proofs.Ytfaeieaelfjlpaa.row q fun _ => u) m _ h.ext, (h.row.part m q (fun _ => u) hq).congr fun j hj => by
    unfold rpV
    by_cases h1 : m ≤ j ∧ j < m + q
    · rw [if_pos h1, if_pos h1.2]
    · rw [if_neg h1]
      by_cases h2 : j < m
      · rw [if_pos h2, if_pos (by omega)]
      · rw [if_neg h2, if_neg (by omega)], h.is.sets _ _ _ _⟩
set_option maxRecDepth 20000 in
set_option maxHeartbeats 4000000 in
theorem repeat_one (xb xc : Nat) (u : Value) (hu1 : u.oneCell' = true) (c : Nat) (c1 : 1 ≤ c) (c2 : c ≤ 4096) (w : World) (hx : w.cell? ⟨xb, 0, none⟩ = some u) (hxb : xb < w.heap.size) :
    Calls Try.prog 24 #[.slice (some ⟨xb, 0, none⟩) 1 xc, .int .i64 (c : Int)] w fun e w' => e = .returned (.slice (some ⟨w.heap.size, 0, none⟩) c c) ∧ RpS w c u c w' := by
  have kmu := hideit (mul_one c c2 w)
  have c0 : ¬ (c : Int) < 0 := by omega
  have w1c : IntKind.u64.wrap (c : Int) = (c : Int) := by rw [IntKind.wrap_u64]; omega
  have w1i : IntKind.i64.wrap (c : Int) = (c : Int) := by rw [IntKind.wrap_i64]; omega
  have cmx : ¬ (9223372036854775807 : Int) < (c : Int) := by omega
  go_enter Try.func24, Try.ntmps24
  go_upto_region 6 with (go_at_call 44; refine kmu.out.mono ?_; rintro e w9 ⟨rfl, hw9⟩; rw [hw9]; clear hw9)
  clear kmu
  have hmade := fun j hj => made_at (Value.slice none 0 0).cells (c * 1) (.slice none 0 0) (fun k hk => by
    have : k = 0 := by simpa [Value.cells] using hk
    subst this
    rfl) (by decide) j hj
  have H0 : RpS w c u 0 (w.alloc (.cells (madeCells (Value.slice none 0 0).cells (c * 1)) 31)) := ⟨(Below.refl _ _).alloc (Nat.le_refl _) _, RowAt.newOf w c _ 31 _ (fun j hj => by unfold rpV; rw [if_neg (by omega)]; exact hmade j (by omega)), madeCells (Value.slice none 0 0).cells (c * 1), (0, 0), by
    show (w.heap.push (.cells (madeCells (Value.slice none 0 0).cells (c * 1)) 31))[w.heap.size]? = _
    simp⟩
  have hx1 : (w.alloc (.cells (madeCells (Value.slice none 0 0).cells (c * 1)) 31)).cell? ⟨xb, 0, none⟩ = some u := by rw [World.cell?_alloc_lt _ _ _ hxb]; exact hx
  clear hmade
  refine wp_region_lit ?_
  refine wpList_run rfl (.int .u64 (c : Int)) (by simp [go_sem]) ?_
  simp only [Act.put, List.setIfInBounds_toArray, List.set_cons_zero, List.set_cons_succ]
  refine wpList_run rfl (.int .i64 (c : Int)) (by simp [go_sem, w1i]) ?_
  simp only [Act.put, List.setIfInBounds_toArray, List.set_cons_zero, List.set_cons_succ]
  refine wpList_to rfl (.slice (some ⟨w.heap.size, 0, none⟩) c c) (w.alloc (.cells (madeCells (Value.slice none 0 0).cells (c * 1)) 31)) (exec_made 54 31 (.tmp 29) (.tmp 29) rfl _ 1 24 c Try.underlying54 info31 rfl rfl (by omega) (by omega)) ?_
  simp only [Act.put, List.setIfInBounds_toArray, List.set_cons_zero, List.set_cons_succ]
  generalize w.alloc (.cells (madeCells (Value.slice none 0 0).cells (c * 1)) 31) = w1 at *
  refine wpList_run rfl (.slice (some ⟨w.heap.size, 0, none⟩) c c) (by simp [go_sem]) ?_
  simp only [Act.put, List.setIfInBounds_toArray, List.set_cons_zero, List.set_cons_succ]
  have H1 := H0.copied (q := 1) (by omega)
  rw [Nat.zero_add] at H1
  have hr1 := fun (o : Oper) (a : Act) (ho : o.op = .call { callee := .builtin .copy, args := #[.tmp 31, .tmp 32], argTypes := #[54, 54] }) (h1 : a.eval (.tmp 31) = .slice (some ⟨w.heap.size, 0, none⟩) c c) (h2 : a.eval (.tmp 32) = .slice (some ⟨xb, 0, none⟩) 1 xc) => exec_copyR (P := Try.prog) (o := o) (a := a) (.tmp 31) (.tmp 32) 54 54 ho 31 Try.underlying54 size31 w.heap.size c _ H0.row 0 c c ⟨xb, 0, none⟩ 1 xc h1 h2 1 (fun _ => u) (by have : Nat.min 1 c = 1 := Nat.min_eq_left c1; omega) (fun j hj => by rw [show j = 0 by omega, add0]; exact hx1) (by omega) (fun _ _ => hu1)
  go_upto_region 7 with (fail)
  refine wp_region_lit ?_
  refine wpList_run rfl (.slice (some ⟨w.heap.size, 0, none⟩) c c) (by simp [go_sem]) ?_
  simp only [Act.put, List.setIfInBounds_toArray, List.set_cons_zero, List.set_cons_succ]
  refine wpList_run rfl (.slice (some ⟨xb, 0, none⟩) 1 xc) (by simp [go_sem]) ?_
  simp only [Act.put, List.setIfInBounds_toArray, List.set_cons_zero, List.set_cons_succ]
  refine wpList_to rfl (.int .i64 1) (w1.setCells w.heap.size 0 (row 1 fun _ => u)) (hr1 _ _ rfl rfl rfl) ?_
  simp only [Act.put, List.setIfInBounds_toArray, List.set_cons_zero, List.set_cons_succ]
  generalize w1.setCells w.heap.size 0 (row 1 fun _ => u) = w2 at *
  clear hr1 H0 hx1
  replace H1 := hideit H1
  go_wp2
  go_loopw [8] (fun iv X => ∃ m : Nat, 1 ≤ m ∧ m ≤ c ∧ iv = .int .i64 (m : Int) ∧ RpS w c u m X) (fun iv _ => c - (intOf iv).toNat)
  case atStart => exact ⟨1, Nat.le_refl _, c1, rfl, H1.out⟩
  case round =>
    obtain ⟨m, hm1, hm, rfl, hN⟩ := hrel
    by_cases hlt : m < c
    · have m0 : (0 : Int) ≤ (m : Int) := by omega
      have m1 : (m : Int) < (c : Int) := by omega
      have m2 : (m : Int) ≤ (c : Int) := by omega
      have m3 : ¬ c = m := by omega
      obtain ⟨q, hq, hq1, hq2⟩ : ∃ q, q = Nat.min m (c - m) ∧ 1 ≤ q ∧ m + q ≤ c := ⟨_, rfl, Nat.le_min.2 ⟨hm1, by omega⟩, by have := Nat.min_le_right m (c - m); have h9 : Nat.min m (c - m) = min m (c - m) := rfl; omega⟩
      have hR0 : RowAt w.heap.size c (rpV u m) wr.drew := hN.row.drew
      have hr1 := fun (o : Oper) (a : Act) (ho : o.op = .call { callee := .builtin .copy, args := #[.tmp 41, .tmp 44], argTypes := #[54, 54] }) (h1 : a.eval (.tmp 41) = .slice (some ⟨w.heap.size, m, none⟩) (c - m) (c - m)) (h2 : a.eval (.tmp 44) = .slice (some ⟨w.heap.size, 0, none⟩) m c) => exec_copyR (P := Try.prog) (o := o) (a := a) (.tmp 41) (.tmp 44) 54 54 ho 31 Try.underlying54 size31 w.heap.size c _ hR0 m (c - m) (c - m) ⟨w.heap.size, 0, none⟩ m c h1 h2 q (fun _ => u) hq (fun j hj => by
        have hjm : j < m := by have := Nat.min_le_left m (c - m); have h9 : Nat.min m (c - m) = min m (c - m) := rfl; omega
        rw [add0, hR0.1 j (by omega)]
        unfold rpV
        rw [if_pos hjm]) (by omega) (fun _ _ => hu1)
      have H2 : Hid (RpS w c u (m + q) (wr.drew.setCells w.heap.size m (row q fun _ => u))) := RpS.copied ⟨hN.ext.draw, hN.row.drew, hN.is⟩ hq2
      have hsum : IntKind.i64.wrap ((m : Int) + (q : Int)) = ((m + q : Nat) : Int) := by rw [IntKind.wrap_i64]; omega
      clear hN hq hR0
      go_upto_region 9 with (fail)
      refine wp_region_lad (fun _ => True) [(false, 0), (false, 1), (false, 2), (false, 3), (false, 4), (false, 5), (false, 6), (true, 7), (false, 8), (false, 9)] (by kernel_rfl) (by kernel_rfl) (by decide +kernel) (by decide +kernel) (by decide +kernel) (by decide +kernel) trivial ?_
      refine wpX_f _ (.int .i64 (m : Int)) rfl rfl (fun X _ => by simp [go_sem]) ?_
      simp only [List.getElem_toArray, List.getElem_cons_zero, Act.put, List.setIfInBounds_toArray, List.set_cons_zero, List.set_cons_succ]
      refine wpX_f _ (.slice (some ⟨w.heap.size, 0, none⟩) c c) rfl rfl (fun X _ => by simp [go_sem]) ?_
      simp only [List.getElem_toArray, List.getElem_cons_zero, List.getElem_cons_succ, Act.put, List.setIfInBounds_toArray, List.set_cons_zero, List.set_cons_succ]
      refine wpX_f _ (.int .i64 (m : Int)) rfl rfl (fun X _ => by simp [go_sem]) ?_
      simp only [List.getElem_toArray, List.getElem_cons_zero, List.getElem_cons_succ, Act.put, List.setIfInBounds_toArray, List.set_cons_zero, List.set_cons_succ]
      refine wpX_f _ (.slice (some ⟨w.heap.size, m, none⟩) (c - m) (c - m)) rfl rfl (fun X _ => by simp [go_sem, add0, m2, m3]) ?_
      simp only [List.getElem_toArray, List.getElem_cons_zero, List.getElem_cons_succ, Act.put, List.setIfInBounds_toArray, List.set_cons_zero, List.set_cons_succ]
      refine wpX_f _ (.slice (some ⟨w.heap.size, 0, none⟩) c c) rfl rfl (fun X _ => by simp [go_sem]) ?_
      simp only [List.getElem_toArray, List.getElem_cons_zero, List.getElem_cons_succ, Act.put, List.setIfInBounds_toArray, List.set_cons_zero, List.set_cons_succ]
      refine wpX_f _ (.int .i64 (m : Int)) rfl rfl (fun X _ => by simp [go_sem]) ?_
      simp only [List.getElem_toArray, List.getElem_cons_zero, List.getElem_cons_succ, Act.put, List.setIfInBounds_toArray, List.set_cons_zero, List.set_cons_succ]
      refine wpX_f _ (.slice (some ⟨w.heap.size, 0, none⟩) m c) rfl rfl (fun X _ => by simp [go_sem, m2]) ?_
      simp only [List.getElem_toArray, List.getElem_cons_zero, List.getElem_cons_succ, Act.put, List.setIfInBounds_toArray, List.set_cons_zero, List.set_cons_succ]
      refine wpX_to _ (.int .i64 (q : Int)) (wr.drew.setCells w.heap.size m (row q fun _ => u)) rfl rfl (hr1 _ _ rfl rfl rfl) (fun _ => True) (fun _ h => h) trivial ?_
      simp only [List.getElem_toArray, List.getElem_cons_zero, List.getElem_cons_succ, Act.put, List.setIfInBounds_toArray, List.set_cons_zero, List.set_cons_succ]
      refine wpX_f _ (.int .i64 ((m + q : Nat) : Int)) rfl rfl (fun X _ => by simp [go_sem, hsum]) ?_
      simp only [List.getElem_toArray, List.getElem_cons_zero, List.getElem_cons_succ, Act.put, List.setIfInBounds_toArray, List.set_cons_zero, List.set_cons_succ]
      refine wpX_f _ (.int .i64 ((m + q : Nat) : Int)) rfl rfl (fun X _ => by simp [go_sem]) ?_
      simp only [List.getElem_toArray, List.getElem_cons_zero, List.getElem_cons_succ, Act.put, List.setIfInBounds_toArray, List.set_cons_zero, List.set_cons_succ]
      refine wpX_nil ?_
      clear hr1
      generalize wr.drew.setCells w.heap.size m (row q fun _ => u) = w3 at *
      generalize hmq : m + q = mq at *
      replace hmq := hideit hmq
      go_wp2
      exact ⟨⟨mq, by have := hmq.out; omega, by have := hmq.out; omega, rfl, H2.out⟩, by simp [intOf]; have := hmq.out; omega⟩
    · obtain rfl : m = c := by omega
      have m1 : ¬ (m : Int) < (m : Int) := by omega
      replace hN := hideit hN
      go_wp2
      go_ret
      exact ⟨rfl, hN.out⟩
end Go.Proofs.Ytfaeieaelfjlpaa
