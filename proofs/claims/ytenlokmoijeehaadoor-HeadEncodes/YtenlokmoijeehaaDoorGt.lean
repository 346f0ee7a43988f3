/-
  How many pieces. A number's bytes in the document. The number that bytes are, in the document. Slices of the call's own whose elements have one cell and any number of bytes: append to them; zeros behind nil; no word of the program. The levels of the tree. The sum of a list. A part of the volume: the closure that counts. Where the parts of a volume lie: a header that may not be. Where the parts of a volume lie: a header that may be.
-/
import Derived.Test.YtenlokmoijeehaaDoorGs
import Derived.Test.YtenlokmoijeehaaDoorGg
namespace Go.Proofs.YtenlokmoijeehaaDoor
open Go.RowKit Go.BigFrame
theorem pieces_any (x m : Nat) (w : World) (hx : x ≤ 65536) (h0 : 0 < m) (h1 : m ≤ 65536) : Calls Tryd.prog 28 #[.int .i64 (x : Int), .int .i64 (m : Int)] w fun e w' => e = .returned (.int .i64 (((x + m - 1) / m : Nat) : Int)) ∧ w' = w := by
  obtain ⟨y, hy⟩ : ∃ y, y = x + m - 1 := ⟨_, rfl⟩
  rw [← hy]
  have a1 : IntKind.i64.wrap ((x : Int) + (m : Int)) = (x : Int) + (m : Int) := by rw [IntKind.wrap_i64]; omega
  have a2 : IntKind.i64.wrap ((x : Int) + (m : Int) - 1) = (y : Int) := by rw [IntKind.wrap_i64]; omega
  have h2 : ¬ m = 0 := by omega
  have a3 : IntKind.i64.wrap ((y : Int) / (m : Int)) = (y : Int) / (m : Int) := by
    have h3 := Nat.div_le_self y m
    rw [← Int.natCast_ediv]
    generalize y / m = d at *
    rw [IntKind.wrap_i64]; omega
  clear hy
  go_enter Tryd.func28, Tryd.ntmps28
  go_upto_region 1 with (fail)
  refine wp_region_lit ?_
  refine wpList_run rfl (.int .i64 (x : Int)) (by simp [go_sem]) ?_
  simp only [Act.put, List.setIfInBounds_toArray, List.set_cons_zero, List.set_cons_succ]
  refine wpList_run rfl (.int .i64 (m : Int)) (by simp [go_sem]) ?_
  simp only [Act.put, List.setIfInBounds_toArray, List.set_cons_zero, List.set_cons_succ]
  refine wpList_run rfl (.int .i64 ((x : Int) + (m : Int))) (by simp [go_sem, a1]) ?_
  simp only [Act.put, List.setIfInBounds_toArray, List.set_cons_zero, List.set_cons_succ]
  refine wpList_run rfl (.int .i64 (y : Int)) (by simp [go_sem, a2]) ?_
  simp only [Act.put, List.setIfInBounds_toArray, List.set_cons_zero, List.set_cons_succ]
  refine wpList_run rfl (.int .i64 (m : Int)) (by simp [go_sem]) ?_
  simp only [Act.put, List.setIfInBounds_toArray, List.set_cons_zero, List.set_cons_succ]
  refine wpList_run rfl (.int .i64 ((y : Int) / (m : Int))) (by simp [go_sem, a3, h2]) ?_
  simp only [Act.put, List.setIfInBounds_toArray, List.set_cons_zero, List.set_cons_succ]
  go_wp2
  go_ret
  exact ⟨by rw [Int.natCast_ediv]; rfl, rfl⟩
theorem up_any (x m : Nat) (w : World) (hx : x ≤ 65536) (h0 : 0 < m) (h1 : m ≤ 65536) : Calls Tryd.prog 31 #[.int .i64 (x : Int), .int .i64 (m : Int)] w fun e w' => e = .returned (.int .i64 (((x + m - 1) / m : Nat) : Int)) ∧ w' = w := by
  obtain ⟨y, hy⟩ : ∃ y, y = x + m - 1 := ⟨_, rfl⟩
  rw [← hy]
  have a1 : IntKind.i64.wrap ((x : Int) + (m : Int)) = (x : Int) + (m : Int) := by rw [IntKind.wrap_i64]; omega
  have a2 : IntKind.i64.wrap ((x : Int) + (m : Int) - 1) = (y : Int) := by rw [IntKind.wrap_i64]; omega
  have h2 : ¬ m = 0 := by omega
  have a3 : IntKind.i64.wrap ((y : Int) / (m : Int)) = (y : Int) / (m : Int) := by
    have h3 := Nat.div_le_self y m
    rw [← Int.natCast_ediv]
    generalize y / m = d at *
    rw [IntKind.wrap_i64]; omega
  clear hy
  go_enter Tryd.func31, Tryd.ntmps31
  go_upto_region 1 with (fail)
  refine wp_region_lit ?_
  refine wpList_run rfl (.int .i64 (x : Int)) (by simp [go_sem]) ?_
  simp only [Act.put, List.setIfInBounds_toArray, List.set_cons_zero, List.set_cons_succ]
  refine wpList_run rfl (.int .i64 (m : Int)) (by simp [go_sem]) ?_
  simp only [Act.put, List.setIfInBounds_toArray, List.set_cons_zero, List.set_cons_succ]
  refine wpList_run rfl (.int .i64 ((x : Int) + (m : Int))) (by simp [go_sem, a1]) ?_
  simp only [Act.put, List.setIfInBounds_toArray, List.set_cons_zero, List.set_cons_succ]
  refine wpList_run rfl (.int .i64 (y : Int)) (by simp [go_sem, a2]) ?_
  simp only [Act.put, List.setIfInBounds_toArray, List.set_cons_zero, List.set_cons_succ]
  refine wpList_run rfl (.int .i64 (m : Int)) (by simp [go_sem]) ?_
  simp only [Act.put, List.setIfInBounds_toArray, List.set_cons_zero, List.set_cons_succ]
  refine wpList_run rfl (.int .i64 ((y : Int) / (m : Int))) (by simp [go_sem, a3, h2]) ?_
  simp only [Act.put, List.setIfInBounds_toArray, List.set_cons_zero, List.set_cons_succ]
  go_wp2
  go_ret
  exact ⟨by rw [Int.natCast_ediv]; rfl, rfl⟩
end Go.Proofs.YtenlokmoijeehaaDoor
namespace Go.Proofs.YtenlokmoijeehaaDoor
open Go.RowKit Go.BigFrame
set_option maxRecDepth 20000 in
set_option maxHeartbeats 2000000 in
theorem number_any (n : Nat) (x : BitVec 64) (w : World) (hn : n ≤ 8) : Calls Tryd.prog 25 #[.int .i64 (n : Int), .int .u64 (x.toNat : Int)] w fun e w' => ∃ v, e = .returned v ∧ OwnB w.heap.size 5 v n (yv (byB x)) w' ∧ Ext w w' := by
  go_enter Tryd.func25, Tryd.ntmps25
  go_wp2
  go_loopw [5, 6] (fun b i X => ∃ k : Nat, k ≤ n ∧ i = .int .i64 k ∧ OwnB w.heap.size 5 b k (yv (byB x)) X ∧ Ext w X) (fun _ i _ => n - (intOf i).toNat)
  case atStart => exact ⟨0, Nat.zero_le _, rfl, own_nil _ _ _ _, Ext.refl _⟩
  case round =>
    obtain ⟨k, hk, rfl, hO, hE⟩ := hrel
    replace hO := hideit hO
    replace hE := hideit hE
    by_cases hlt : k < n
    · have k0 : (0 : Int) ≤ (k : Int) := by omega
      have k1 : (k : Int) < (n : Int) := by omega
      have k8 : k < 8 := by omega
      have hm : IntKind.i64.wrap (8 * (k : Int)) = 8 * (k : Int) := by rw [IntKind.wrap_i64]; omega
      obtain ⟨q, hq⟩ : ∃ q, q = x.toNat / 2 ^ (8 * k) := ⟨_, rfl⟩
      have hq8 : IntKind.u8.wrap (q : Int) = ((byB x k).toNat : Int) := by
        unfold byB
        rw [IntKind.wrap_u8, BitVec.toNat_setWidth, BitVec.toNat_ushiftRight, Nat.shiftRight_eq_div_pow, ← hq]
        omega
      have hsh : (x.toNat : Int) / 2 ^ (8 * (k : Int)).toNat = (q : Int) := by
        rw [show (8 * (k : Int)).toNat = 8 * k by omega, hq, Int.natCast_ediv, Int.natCast_pow]
        rfl
      clear hq
      go_upto_region 5 with (fail)
      obtain ⟨ov, cv, rfl⟩ := hO.out.bv.form
      have hX : Ext wr (wr.alloc (.cells #[.int .u8 ((byB x k).toNat : Int)] 5)) := (Below.refl _ _).alloc (Nat.le_refl _) _
      have hN := newB wr #[.int .u8 ((byB x k).toNat : Int)] 1 (fun _ => byB x k) (fun j hj => by
        obtain rfl : j = 0 := by omega
        rfl)
      have hO2 := hideit (hO.out.ext hX)
      have hN2 := hideit hN.1
      have hE2 := hideit (Ext.trans hE.out hX)
      clear hO hN hX hE
      refine wp_region_lit ?_
      refine wpList_run rfl (.slice ov k cv) (by simp [go_sem]) ?_
      simp only [Act.put, List.setIfInBounds_toArray, List.set_cons_zero, List.set_cons_succ]
      refine wpList_run rfl (.int .u64 (x.toNat : Int)) (by simp [go_sem]) ?_
      simp only [Act.put, List.setIfInBounds_toArray, List.set_cons_zero, List.set_cons_succ]
      refine wpList_run rfl (.int .i64 (k : Int)) (by simp [go_sem]) ?_
      simp only [Act.put, List.setIfInBounds_toArray, List.set_cons_zero, List.set_cons_succ]
      refine wpList_run rfl (.int .i64 (8 * (k : Int))) (by simp [go_sem, hm]) ?_
      simp only [Act.put, List.setIfInBounds_toArray, List.set_cons_zero, List.set_cons_succ]
      refine wpList_run rfl (.int .u64 (q : Int)) (by simp [go_sem, hsh]) ?_
      simp only [Act.put, List.setIfInBounds_toArray, List.set_cons_zero, List.set_cons_succ]
      refine wpList_run rfl (.int .u8 ((byB x k).toNat : Int)) (by simp [go_sem, hq8]) ?_
      simp only [Act.put, List.setIfInBounds_toArray, List.set_cons_zero, List.set_cons_succ]
      refine wpList_to rfl (.slice (some ⟨wr.heap.size, 0, none⟩) 1 1) (wr.alloc (.cells #[.int .u8 ((byB x k).toNat : Int)] 5)) (by simp [go_sem]) ?_
      simp only [Act.put, List.setIfInBounds_toArray, List.set_cons_zero, List.set_cons_succ]
      refine wpList_growV (n := k) (base := w.heap.size) elem22 rfl (.tmp 12) (.tmp 18) rfl rfl hO2.out (.slice (some ⟨wr.heap.size, 0, none⟩) 1 1) 1 (fun _ => byB x k) (yv (byB x)) rfl hN2.out (fun j hj => rfl) (fun j hj => by simp only [yv]; rw [show k + j = k by omega]) (by omega) (Below.size hE2.out) ?_
      intro v' Y hO' hg'
      have hE3 := hideit (grownE hE2.out hO2.out (Nat.le_refl _) hg')
      replace hO' := hideit hO'
      clear hO2 hN2 hE2 hg'
      simp only [Act.put, List.setIfInBounds_toArray, List.set_cons_zero, List.set_cons_succ]
      go_wp2
      exact ⟨⟨k + 1, by omega, by go_num, hO'.out, hE3.out⟩, by simp [intOf]; omega⟩
    · obtain rfl : k = n := by omega
      go_wp2
      go_ret
      exact ⟨_, rfl, hO.out, hE.out⟩
end Go.Proofs.YtenlokmoijeehaaDoor
namespace Go.Proofs.YtenlokmoijeehaaDoor
open Go.RowKit Go.BigFrame
set_option maxRecDepth 20000 in
set_option maxHeartbeats 2000000 in
theorem value_any (v : Value) (n : Nat) (f : Nat → BitVec 8) (w : World) (h : BV v n f w) (hn8 : n ≤ 8) : Calls Tryd.prog 41 #[v] w fun e w' => e = .returned (.int .u64 ((leN f n).toNat : Int)) ∧ w' = w := by
  obtain ⟨oa, cp, rfl⟩ := h.form
  have hcell : Hid (∀ j, j < n → ∃ ad, oa = some ad ∧ w.cell? (ad.add j) = some (.int .u8 ((f j).toNat : Int))) := by
    intro j hj
    rcases h with ⟨_, h0⟩ | ⟨a, cap, h1, h2, h3⟩
    · omega
    · injection h1 with h1 _ _
      exact ⟨a, h1, h3.1 j hj⟩
  clear h
  go_enter Tryd.func41, Tryd.ntmps41
  go_wp2
  go_loop [3, 4] (fun x i => ∃ k : Nat, k ≤ n ∧ i = .int .i64 k ∧ x = .int .u64 ((leN f k).toNat : Int)) (fun _ i => n - (intOf i).toNat)
  case atStart => exact ⟨0, Nat.zero_le _, rfl, rfl⟩
  case round =>
    obtain ⟨k, hk, rfl, rfl⟩ := hrel
    by_cases hlt : k < n
    · obtain ⟨ad, rfl, hc⟩ := hcell.out k hlt
      have k0 : (0 : Int) ≤ (k : Int) := by omega
      have k1 : (k : Int) < (n : Int) := by omega
      have k2 : (k : Int) < 8 := by omega
      go_wp2
      go_round
      case rel =>
        refine ⟨k + 1, by omega, by go_num, ?_⟩
        rw [or_wrap]
        rfl
      case measure => simp [intOf]; omega
    · obtain rfl : k = n := by omega
      go_wp2
      go_ret
      exact ⟨rfl, rfl⟩
end Go.Proofs.YtenlokmoijeehaaDoor
namespace Go.Proofs.YtenlokmoijeehaaDoor
open Go.RowKit Go.BigFrame
/-- facts on the element's type: one cell, B bytes -/
structure ElemB (P : Program) (t e : TypeId) (B : Nat) : Prop where
  slice : P.underlying t = some (.slice e)
  info : ∃ i z, P.info? e = some i ∧ i.zero = some z ∧ i.size = 1 ∧ i.bytes = B ∧ z.cells.size = 1
theorem elem_b {P : Program} {t e : TypeId} {B : Nat} (hs : P.underlying t = some (.slice e)) (h1 : (P.info? e).map (·.size) = some 1) (h2 : (P.info? e).map (·.bytes) = some B) (h3 : ((P.info? e).bind (·.zero)).map (·.cells.size) = some 1) : ElemB P t e B := by
  refine ⟨hs, ?_⟩
  cases hi : P.info? e with
  | none => rw [hi] at h1; cases h1
  | some i =>
    rw [hi] at h1 h2 h3
    simp only [Option.map_some, Option.some.injEq, Option.bind_some] at h1 h2 h3
    cases hz : i.zero with
    | none => rw [hz] at h3; cases h3
    | some z =>
      rw [hz] at h3
      simp only [Option.map_some, Option.some.injEq] at h3
      exact ⟨i, z, rfl, hz, h1, h2, h3⟩
section
variable {base : Nat} {e : TypeId} {v : Value} {n B : Nat} {g g' : Nat → Value} {w w' : World}
/-- append of cells that lie somewhere -/
theorem wpList_growE {P : Program} {ops : Array Oper} {rest : List Oper} {o : Oper} {a : Act} {Q : Exit → Act → World → Prop} {t : TypeId} (E : ElemB P t e B) (hgd : o.guard = none) (s x : Operand)
    (ho : o.op = .call { callee := .builtin .append, args := #[s, x], argTypes := #[t, t] }) (hs : a.eval s = v) (hown : OwnB base e v n g w)
    (ad : Addr) (m c : Nat) (u f : Nat → Value) (hx : a.eval x = .slice (some ad) m c) (hl : LieAt ad m u w) (h1 : ∀ j, j < m → (u j).oneCell' = true) (hf1 : ∀ j, j < n → g j = f j) (hf2 : ∀ j, j < m → u j = f (n + j))
    (hbytes : (n + m) * B ≤ 140737488355328) (h63 : n + m ≤ 140737488355328) (hbase : base ≤ w.heap.size)
    (h : ∀ v' w', OwnB base e v' (n + m) f w' → w.grownBy w' v.ownBlock → wpList P ops Q rest (a.put o.dst v') w') : wpList P ops Q (o :: rest) a w := by
  obtain ⟨i, z, e1, e2, e3, e4, e5⟩ := E.info
  refine wpList_append_own w hgd s x t ho base e i z 1 B E.slice e1 e2 e3 e4 e5 (by decide) v n (row n g) hs hown ad m c (row m u) hx (by rw [row_length]; omega) (fun j w0 hj => ?_) (fun w0 hw0 => ?_) (by unfold maxLen; omega) hbytes hbase fun v' w' h2 h3 _ => h v' w' ?_ h3
  · obtain ⟨hj', rfl⟩ := row_some hj
    exact hl.1 j hj'
  · obtain ⟨j, hj, rfl⟩ := List.mem_map.1 hw0
    exact h1 j (by simpa using hj)
  · unfold OwnB
    rwa [row_append n m g u f hf1 hf2] at h2
theorem wpList_growE_none {P : Program} {ops : Array Oper} {rest : List Oper} {o : Oper} {a : Act} {Q : Exit → Act → World → Prop} {t : TypeId} (E : ElemB P t e B) (hgd : o.guard = none) (s x : Operand)
    (ho : o.op = .call { callee := .builtin .append, args := #[s, x], argTypes := #[t, t] }) (hs : a.eval s = v) (hown : OwnB base e v n g w) (hx : a.eval x = .slice none 0 0)
    (h : wpList P ops Q rest (a.put o.dst v) w) : wpList P ops Q (o :: rest) a w := by
  obtain ⟨i, z, e1, e2, e3, e4, e5⟩ := E.info
  exact wpList_append_own_none hgd s x t ho base e i 1 E.slice e1 v n (row n g) hs hown hx h
/-- it shrinks to nothing, and keeps its room -/
theorem OwnB.cut0 {b cap : Nat} (h : OwnB base e (.slice (some ⟨b, 0, none⟩) n cap) n g w) : OwnB base e (.slice (some ⟨b, 0, none⟩) 0 cap) 0 g' w := by
  rcases h.2 with ⟨h1, _⟩ | ⟨k, c, cur, hv, hb, hg, hc, hm, hs, ht⟩
  · cases h1
  · injection hv with q1 _ q3
    subst q3
    exact ⟨by simp [row], .inr ⟨k, cap, cur, by rw [q1], hb, hg, Nat.zero_le _, hm, hs, by simp [row]⟩⟩
end
/-- an append whose run is known -/
theorem wpList_appN {P : Program} {ops : Array Oper} {rest : List Oper} {o : Oper} {a : Act} {w : World} {Q : Exit → Act → World → Prop} (hgd : o.guard = none) (s x : Operand) (t u : TypeId) (ho : o.op = .call { callee := .builtin .append, args := #[s, x], argTypes := #[t, u] })
    (v y v' : Value) (w' : World) (hs : a.eval s = v) (hx : a.eval x = y) (hr : (Builtin.append_ #[t, u] o.type #[v, y]).run P w = .ok v' w') (h : wpList P ops Q rest (a.put o.dst v') w') : wpList P ops Q (o :: rest) a w := by
  refine wpList_plain hgd fun K hK => ?_
  unfold Oper.wp execOp
  simp only [ho, resolve, invoke, builtin, Sem.run_bind, Sem.run_pure, Result.andThen_ok, List.map_toArray, List.map_cons, List.map_nil, hs, hx, hr]
  exact hK _ _ h
theorem zeroCellsE (zv : Value) (m : Nat) : Builtin.zeroCells #[zv] m = (row m fun _ => zv).toArray := by
  apply Array.ext'
  simp only [Builtin.zeroCells, row]
  apply List.ext_getElem?
  intro i
  by_cases h : i < m
  · simp [h, Nat.mod_one]
  · simp [h]
end Go.Proofs.YtenlokmoijeehaaDoor
namespace Go.Proofs.YtenlokmoijeehaaDoor
open Go.RowKit Go.BigFrame
theorem own_one (w : World) (base : Nat) (e : TypeId) (u : Value) (hb : base ≤ w.heap.size) : OwnB base e (.slice (some ⟨w.heap.size, 0, none⟩) 1 1) 1 (fun _ => u) (w.alloc (.cells #[u] e)) :=
  ⟨by rw [row_length], .inr ⟨w.heap.size, 1, #[u], rfl, hb, by
    show (w.heap.push (.cells #[u] e))[w.heap.size]? = _
    simp, Nat.le_refl _, by unfold maxLen; decide, rfl, rfl⟩⟩
theorem elem32 : ElemB Tryd.prog 32 3 8 := elem_b Tryd.underlying32 (by kernel_rfl) (by kernel_rfl) (by kernel_rfl)
def lvF (m : Nat) : Nat → Value := fun j => if j = 0 then .int .i64 (m : Int) else .int .i64 1
set_option maxRecDepth 20000 in
set_option maxHeartbeats 2000000 in
theorem levels_any (t : Nat) (w : World) (h1 : 1 ≤ t) (h2 : t ≤ 128) (m : Nat) (hm : m = (t + 16 - 1) / 16) : Calls Tryd.prog 29 #[.int .i64 (t : Int)] w fun e w' => ∃ v, e = .returned v ∧ OwnB w.heap.size 3 v (if m = 1 then 1 else 2) (lvF m) w' ∧ Ext w w' := by
  obtain ⟨N, hN9⟩ : ∃ N, N = if m = 1 then 1 else 2 := ⟨_, rfl⟩
  rw [← hN9]
  replace hN9 := hideit hN9
  have k := pieces_any t 16 w (by omega) (by decide) (by decide)
  rw [← hm] at k
  have hm1 : 1 ≤ m := by omega
  have hm8 : m ≤ 8 := by omega
  replace k := hideit k
  clear hm h1 h2
  have O1 := hideit ((own_one w w.heap.size 3 (.int .i64 (m : Int)) (Nat.le_refl _)).congr (g' := lvF m) fun j hj => by
    obtain rfl : j = 0 := by omega
    rfl)
  have hE1 := hideit ((Below.refl w.heap.size w).alloc (Nat.le_refl _) (.cells #[.int .i64 (m : Int)] 3))
  go_enter Tryd.func29, Tryd.ntmps29
  go_upto_region 2 with (go_at_call 28; refine k.out.mono ?_; rintro e w9 ⟨rfl, hw9⟩; rw [hw9]; clear hw9)
  clear k
  refine wp_region_lit ?_
  refine wpList_run rfl (.int .i64 (m : Int)) (by simp [go_sem]) ?_
  simp only [Act.put, List.setIfInBounds_toArray, List.set_cons_zero, List.set_cons_succ]
  refine wpList_to rfl (.slice (some ⟨w.heap.size, 0, none⟩) 1 1) (w.alloc (.cells #[.int .i64 (m : Int)] 3)) (by simp [go_sem]) ?_
  simp only [Act.put, List.setIfInBounds_toArray, List.set_cons_zero, List.set_cons_succ]
  go_wp2
  generalize w.alloc (.cells #[.int .i64 (m : Int)] 3) = w1 at *
  go_loopw [3, 4] (fun b l X => ∃ q c : Nat, b = .int .i64 (q : Int) ∧ ((q = m ∧ c = 1) ∨ (1 < m ∧ q = 1 ∧ c = 2)) ∧ OwnB w.heap.size 3 l c (lvF m) X ∧ Ext w X) (fun b _ _ => (intOf b).toNat)
  case atStart => exact ⟨m, 1, rfl, .inl ⟨rfl, rfl⟩, O1.out, hE1.out⟩
  case round =>
    obtain ⟨q, c, rfl, hqc, hO, hE⟩ := hrel
    replace hO := hideit hO
    replace hE := hideit hE
    clear O1 hE1
    by_cases hlt : 1 < q
    · obtain ⟨rfl, rfl⟩ : q = m ∧ c = 1 := by omega
      have q1 : (1 : Int) < (q : Int) := by omega
      have k := pieces_any q 16 wr (by omega) (by decide) (by decide)
      rw [show (q + 16 - 1) / 16 = 1 by omega] at k
      replace k := hideit k
      go_upto_region 5 with (go_at_call 28; refine k.out.mono ?_; rintro e w9 ⟨rfl, hw9⟩; rw [hw9]; clear hw9)
      clear k
      have hN : LieAt ⟨wr.heap.size, 0, none⟩ 1 (fun _ => .int .i64 1) (wr.alloc (.cells #[.int .i64 1] 3)) := by
        have hr := RowAt.newOf wr 1 (fun _ => .int .i64 1) 3 #[.int .i64 1] (fun j hj => by
          obtain rfl : j = 0 := by omega
          rfl)
        refine ⟨fun j hj => ?_, hr.2.2⟩
        obtain rfl : j = 0 := by omega
        exact hr.1 0 (by omega)
      have hX : Ext wr (wr.alloc (.cells #[.int .i64 1] 3)) := (Below.refl _ _).alloc (Nat.le_refl _) _
      have hO2 := hideit (hO.out.ext hX)
      have hE2 := hideit (Ext.trans hE.out hX)
      replace hN := hideit hN
      clear hO hE hX
      refine wp_region_lit ?_
      refine wpList_run rfl (u4) (by simp [go_sem]) ?_
      simp only [Act.put, List.setIfInBounds_toArray, List.set_cons_zero, List.set_cons_succ]
      refine wpList_run rfl (.int .i64 1) (by simp [go_sem]) ?_
      simp only [Act.put, List.setIfInBounds_toArray, List.set_cons_zero, List.set_cons_succ]
      refine wpList_to rfl (.slice (some ⟨wr.heap.size, 0, none⟩) 1 1) (wr.alloc (.cells #[.int .i64 1] 3)) (by simp [go_sem]) ?_
      simp only [Act.put, List.setIfInBounds_toArray, List.set_cons_zero, List.set_cons_succ]
      refine wpList_growE (n := 1) (base := w.heap.size) elem32 rfl (.tmp 13) (.tmp 15) rfl rfl hO2.out ⟨wr.heap.size, 0, none⟩ 1 1 (fun _ => .int .i64 1) (lvF q) rfl hN.out (fun _ _ => rfl) (fun _ _ => rfl) (fun j hj => by unfold lvF; rw [if_neg (by omega)]) (by decide) (by decide) (Below.size hE2.out) ?_
      intro v' Y hO' hg'
      have hE3 := hideit (grownE hE2.out hO2.out (Nat.le_refl _) hg')
      replace hO' := hideit hO'
      clear hO2 hN hE2 hg'
      simp only [Act.put, List.setIfInBounds_toArray, List.set_cons_zero, List.set_cons_succ]
      go_wp2
      exact ⟨⟨1, 2, rfl, .inr ⟨hlt, rfl, rfl⟩, hO'.out, hE3.out⟩, by simp [intOf]; omega⟩
    · have q1 : ¬ (1 : Int) < (q : Int) := by omega
      have hc : c = N := by
        rw [hN9.out]
        by_cases hm2 : m = 1
        · rw [if_pos hm2]; omega
        · rw [if_neg hm2]; omega
      subst hc
      clear hqc hN9
      go_wp2
      go_ret
      exact ⟨_, rfl, hO.out, hE.out⟩
end Go.Proofs.YtenlokmoijeehaaDoor
namespace Go.Proofs.YtenlokmoijeehaaDoor
open Go.RowKit Go.BigFrame
def sumZ (z : Nat → Int) : Nat → Int
  | 0 => 0
  | k + 1 => sumZ z k + z k
theorem sumZ_in (z : Nat → Int) (n : Nat) (h : ∀ j, j < n → 0 ≤ z j ∧ z j ≤ 65536) : ∀ k, k ≤ n → 0 ≤ sumZ z k ∧ sumZ z k ≤ 65536 * (k : Int)
  | 0, _ => ⟨Int.le_refl _, by simp [sumZ]⟩
  | k + 1, hk => by
    have h1 := sumZ_in z n h k (by omega)
    have h2 := h k (by omega)
    simp only [sumZ]
    omega
set_option maxRecDepth 20000 in
set_option maxHeartbeats 2000000 in
theorem sum_list (b n cap : Nat) (z : Nat → Int) (w : World) (h : RowAt b n (fun j => .int .i64 (z j)) w) (hz : ∀ j, j < n → 0 ≤ z j ∧ z j ≤ 65536) (hn : n ≤ 8) : Calls Tryd.prog 30 #[.slice (some ⟨b, 0, none⟩) n cap] w fun e w' => e = .returned (.int .i64 (sumZ z n)) ∧ w' = w := by
  replace h := hideit h
  replace hz := hideit hz
  go_enter Tryd.func30, Tryd.ntmps30
  go_wp2
  go_loop [3, 8] (fun s i => ∃ k : Nat, k ≤ n ∧ i = .int .i64 k ∧ s = .int .i64 (sumZ z k)) (fun _ i => n - (intOf i).toNat)
  case atStart => exact ⟨0, Nat.zero_le _, rfl, rfl⟩
  case round =>
    obtain ⟨k, hk, rfl, rfl⟩ := hrel
    by_cases hlt : k < n
    · have k0 : (0 : Int) ≤ (k : Int) := by omega
      have k1 : (k : Int) < (n : Int) := by omega
      have k2 : (k : Int) < 8 := by omega
      have hc : w.cell? ⟨b, k, none⟩ = some (.int .i64 (z k)) := h.out.1 k hlt
      have hs1 := sumZ_in z n hz.out k (by omega)
      have hs2 := hz.out k hlt
      have hw : IntKind.i64.wrap (sumZ z k + z k) = sumZ z k + z k := by rw [IntKind.wrap_i64]; omega
      clear hs1 hs2
      go_wp2
      go_round
      case rel => exact ⟨k + 1, by omega, by go_num, rfl⟩
      case measure => simp [intOf]; omega
    · obtain rfl : k = n := by omega
      go_wp2
      go_ret
      exact ⟨rfl, rfl⟩
end Go.Proofs.YtenlokmoijeehaaDoor
namespace Go.Proofs.YtenlokmoijeehaaDoor
open Go.RowKit Go.BigFrame
set_option maxRecDepth 20000 in
set_option maxHeartbeats 2000000 in
theorem part_any (c : Nat) (x b : Int) (w : World) (h : w.cell? ⟨c, 0, none⟩ = some (.int .i64 x)) (hf : w.frozen? ⟨c, 0, none⟩ = false) (hx : 0 ≤ x ∧ x ≤ 65536) (hb : 0 ≤ b ∧ b ≤ 65536) :
    Calls Tryd.prog 27 #[.int .i64 b, .pointer (some ⟨c, 0, none⟩)] w fun e w' => e = .returned (.int .i64 x) ∧ w' = w.setCell ⟨c, 0, none⟩ (.int .i64 (x + b)) := by
  have hw : IntKind.i64.wrap (x + b) = x + b := by rw [IntKind.wrap_i64]; omega
  clear hx hb
  go_enter Tryd.func27, Tryd.ntmps27
  go_wp2
  go_ret
  exact ⟨rfl, rfl⟩
end Go.Proofs.YtenlokmoijeehaaDoor
namespace Go.Proofs.YtenlokmoijeehaaDoor
open Go.RowKit Go.BigFrame
/-- a layout: its numbers, its levels -/
def lyv (z : Nat → Int) (v : Value) : Nat → Value := fun j => if j = 5 then v else .int .i64 (z j)
theorem infoL : (Tryd.prog.info? 34).map (·.size) = some 9 := by kernel_rfl
theorem zeroL (w : World) : (zeroValue 34).run Tryd.prog w = .ok (.agg (row 9 (lyv (fun _ => 0) (.slice none 0 0))).toArray) w := by kernel_rfl
theorem buildL (w : World) : (Instr.build 34 #[]).run Tryd.prog w = .ok (.agg (row 9 (lyv (fun _ => 0) (.slice none 0 0))).toArray) w := run_build w 34 #[] _ (by kernel_rfl)
theorem lyv_one (z : Nat → Int) {v : Value} (h : v.oneCell' = true) (j : Nat) : (lyv z v j).oneCell' = true := by
  unfold lyv
  split
  · exact h
  · rfl
set_option maxRecDepth 20000 in
set_option maxHeartbeats 2000000 in
theorem lay_no (h : Hd) (w : World) (hk : ¬ okH h) : Calls Tryd.prog 10 #[.agg (row 24 (hdv h)).toArray] w fun e w' => e = .returned (.tuple #[.agg (row 9 (lyv (fun _ => 0) (.slice none 0 0))).toArray, .int .i64 1]) ∧ Ext w w' := by
  have H0 : Hid (RowAt w.heap.size 24 (hdv h) (w.alloc (.cells (row 24 (hdv h)).toArray 27))) := RowAt.new w 24 _ 27
  have hE0 : Hid (Ext w (w.alloc (.cells (row 24 (hdv h)).toArray 27))) := (Below.refl _ _).alloc (Nat.le_refl _) _
  go_enter Tryd.func10, Tryd.ntmps10
  go_upto_region 0 with (fail)
  refine wp_region_lit ?_
  refine wpList_to rfl (.pointer (some ⟨w.heap.size, 0, none⟩)) (w.alloc (.cells (row 24 (hdv h)).toArray 27)) (by simp [go_sem]) ?_
  simp only [Act.put, List.setIfInBounds_toArray, List.set_cons_zero, List.set_cons_succ]
  generalize w.alloc (.cells (row 24 (hdv h)).toArray 27) = w1 at *
  obtain ⟨c, hc⟩ : ∃ c, c = w.heap.size := ⟨_, rfl⟩
  have hwc : Hid (w.heap.size ≤ c) := hideit (by omega)
  rw [← hc] at H0 ⊢
  clear hc
  have Q2 := hideit (RowAt.new w1 9 (lyv (fun _ => 0) (.slice none 0 0)) 34)
  have hE2 : Ext w1 (w1.alloc (.cells (row 9 (lyv (fun _ => 0) (.slice none 0 0))).toArray 34)) := (Below.refl _ _).alloc (Nat.le_refl _) _
  have H2 := hideit (H0.out.carry hE2)
  have hcq : Hid (c < w1.heap.size) := hideit H0.out.2.2
  replace hE2 := hideit (Ext.trans hE0.out hE2)
  refine wpList_to rfl (.pointer (some ⟨w1.heap.size, 0, none⟩)) (w1.alloc (.cells (row 9 (lyv (fun _ => 0) (.slice none 0 0))).toArray 34)) (exec_alloc 34 _ rfl (zeroL w1)) ?_
  simp only [Act.put, List.setIfInBounds_toArray, List.set_cons_zero, List.set_cons_succ]
  generalize w1.alloc (.cells (row 9 (lyv (fun _ => 0) (.slice none 0 0))).toArray 34) = w2 at *
  generalize w1.heap.size = q at *
  have hwq : Hid (w.heap.size ≤ q) := hideit (by have := hwc.out; have := hcq.out; omega)
  clear H0 hE0 hwc hcq
  go_upto_region 1 with (fail)
  have k := hideit (check_no h w2 hk)
  refine wp_region_lit ?_
  refine wpList_run rfl (.agg (row 24 (hdv h)).toArray) (exec_loadR 27 (.tmp 1) rfl c 0 24 _ rfl H2.out.range Tryd.underlying27 rfl infoH) ?_
  simp only [Act.put, List.setIfInBounds_toArray, List.set_cons_zero, List.set_cons_succ]
  refine wpList_call rfl (by simp [go_sem]; exact ⟨rfl, rfl⟩) ?_
  refine (k.out).mono ?_
  rintro e w3 ⟨rfl, hE3⟩
  refine ⟨_, rfl, ?_⟩
  simp only [Act.put, List.setIfInBounds_toArray, List.set_cons_zero, List.set_cons_succ]
  have Q3 := hideit (Q2.out.carry hE3)
  replace hE3 := hideit (Ext.trans hE2.out hE3)
  clear k H2 Q2 hE2
  go_upto_region 3 with (fail)
  refine wp_region_lit ?_
  refine wpList_build rfl 34 [] rfl (.agg (row 9 (lyv (fun _ => 0) (.slice none 0 0))).toArray) (buildL _) ?_
  simp only [Act.put, List.setIfInBounds_toArray, List.set_cons_zero, List.set_cons_succ]
  refine wpList_run rfl (.int .i64 1) (by simp [go_sem]) ?_
  simp only [Act.put, List.setIfInBounds_toArray, List.set_cons_zero, List.set_cons_succ]
  refine wpList_store_mid rfl 34 (.tmp 2) (.tmp 13) rfl q 0 (row 9 (lyv (fun _ => 0) (.slice none 0 0))).toArray rfl rfl (by rw [row_size]; exact Q3.out.there) (by rw [row_size]; exact infoL) (row_one fun j _ => lyv_one _ rfl j) ?_
  rw [show (row 9 (lyv (fun _ => 0) (.slice none 0 0))).toArray.toList = row 9 (lyv (fun _ => 0) (.slice none 0 0)) from rfl]
  have h9 : Hid (RowAt q 9 (lyv (fun _ => 0) (.slice none 0 0)) (w3.setCells q 0 (row 9 (lyv (fun _ => 0) (.slice none 0 0))))) := hideit Q3.out.cells
  have hE4 := hideit (below_setCells q hwq.out (row 9 (lyv (fun _ => 0) (.slice none 0 0))) 0 _ hE3.out)
  generalize w3.setCells q 0 (row 9 (lyv (fun _ => 0) (.slice none 0 0))) = w4 at *
  clear Q3 hE3
  simp only [Act.put]
  go_wp2
  exact bodyPost_ret (ret_row2 Tryd.results10 rfl h9.out Tryd.underlying34 rfl infoL) rfl ⟨rfl, hE4.out⟩
end Go.Proofs.YtenlokmoijeehaaDoor
namespace Go.Proofs.YtenlokmoijeehaaDoor
open Go.RowKit Go.BigFrame
/-- Layout's memory: the header, the result, the end so far, the layout so far, the levels -/
def LyS (w0 : World) (h : Hd) (c q p s b N : Nat) (g : Nat → Value) (x : Int) (z : Nat → Int) (v : Value) (X : World) : Prop :=
  RowAt c 24 (hdv h) X ∧ RowAt q 9 (lyv (fun _ => 0) (.slice none 0 0)) X ∧ RowAt p 1 (fun _ => .int .i64 x) X ∧ RowAt s 9 (lyv z v) X ∧ RowAt b N g X ∧ Ext w0 X
def Apt (n c q p s b : Nat) : Prop := n ≤ c ∧ c < q ∧ q < p ∧ p < s ∧ b ≠ p ∧ b ≠ s ∧ b ≠ q
theorem LyS.step {w0 X Y : World} {h : Hd} {c q p s b N : Nat} {g : Nat → Value} {x : Int} {z : Nat → Int} {v : Value} (H : LyS w0 h c q p s b N g x z v X) (hA : Apt w0.heap.size c q p s b) (k : Nat) (hk : k ≠ 5) (y : Int)
    (hY : Y = X.setCell ⟨p, 0, none⟩ (.int .i64 y)) : LyS w0 h c q p s b N g y (fun j => if j = k then x else z j) v (Y.setCell ⟨s, k, none⟩ (.int .i64 x)) := by
  subst hY
  obtain ⟨h1, h2, h3, h4, h5, h6⟩ := H
  obtain ⟨a1, a2, a3, a4, a5, a6, a7⟩ := hA
  refine ⟨(h1.other ⟨p, 0, none⟩ _ (by show p ≠ c; omega)).other ⟨s, k, none⟩ _ (by show s ≠ c; omega), (h2.other ⟨p, 0, none⟩ _ (by show p ≠ q; omega)).other ⟨s, k, none⟩ _ (by show s ≠ q; omega),
    ((h3.set 0 _).congr fun j hj => ?_).other ⟨s, k, none⟩ _ (by show s ≠ p; omega), ((h4.other ⟨p, 0, none⟩ _ (by show p ≠ s; omega)).set k _).congr fun j hj => ?_, (h5.other ⟨p, 0, none⟩ _ (by show p ≠ b; omega)).other ⟨s, k, none⟩ _ (by show s ≠ b; omega),
    (h6.but (but_setCell X p 0 _) (by omega)).but (but_setCell _ s k _) (by omega)⟩
  · rw [if_pos (by omega)]
  · unfold lyv
    by_cases e : j = k
    · rw [if_pos e, if_neg (by omega)]
      show _ = Value.int .i64 (if j = k then x else z j)
      rw [if_pos e]
    · rw [if_neg e]
      by_cases e5 : j = 5
      · rw [if_pos e5, if_pos e5]
      · rw [if_neg e5, if_neg e5]
        show _ = Value.int .i64 (if j = k then x else z j)
        rw [if_neg e]
theorem LyS.at {w0 X Y : World} {h : Hd} {c q p s b N : Nat} {g : Nat → Value} {x : Int} {z : Nat → Int} {v : Value} (H : LyS w0 h c q p s b N g x z v X) (hA : Apt w0.heap.size c q p s b) (k : Nat) (hk : k < 9) (y : Value)
    (hY : Y = X.setCell ⟨p, 0, none⟩ y) : Y.cell? ⟨s, k, none⟩ = some (lyv z v k) ∧ Y.frozen? ⟨s, k, none⟩ = false := by
  subst hY
  have h4 := H.2.2.2.1.other ⟨p, 0, none⟩ y (by have := hA.2.2.2.1; show p ≠ s; omega)
  exact ⟨h4.1 k hk, h4.2.1 k hk⟩
theorem LyS.lev {w0 X Y : World} {h : Hd} {c q p s N lb : Nat} {g g' : Nat → Value} {x : Int} {z : Nat → Int} {v v' : Value} (H : LyS w0 h c q p s c 0 g x z v X) (hA : Apt w0.heap.size c q p s c) (k : Ext X Y) (R : RowAt lb N g' Y) (hl : X.heap.size ≤ lb) :
    LyS w0 h c q p s lb N g' x z v' (Y.setCell ⟨s, 5, none⟩ v') ∧ Apt w0.heap.size c q p s lb := by
  obtain ⟨h1, h2, h3, h4, h5, h6⟩ := H
  obtain ⟨a1, a2, a3, a4, a5, a6, a7⟩ := hA
  have hs := h4.2.2
  refine ⟨⟨(h1.carry k).other ⟨s, 5, none⟩ _ (by show s ≠ c; omega), (h2.carry k).other ⟨s, 5, none⟩ _ (by show s ≠ q; omega), (h3.carry k).other ⟨s, 5, none⟩ _ (by show s ≠ p; omega), ((h4.carry k).set 5 _).congr fun j hj => ?_, R.other ⟨s, 5, none⟩ _ (by show s ≠ lb; omega), (Ext.trans h6 k).but (but_setCell _ s 5 _) (by omega)⟩, a1, a2, a3, a4, by omega, by omega, by omega⟩
  unfold lyv
  by_cases e : j = 5
  · rw [if_pos e, if_pos e]
  · rw [if_neg e, if_neg e, if_neg e]
theorem LyS.last {w0 X : World} {h : Hd} {c q p s b N : Nat} {g : Nat → Value} {x : Int} {z : Nat → Int} {v : Value} (H : LyS w0 h c q p s b N g x z v X) (hA : Apt w0.heap.size c q p s b) (k : Nat) (hk : k ≠ 5) :
    LyS w0 h c q p s b N g x (fun j => if j = k then x else z j) v (X.setCell ⟨s, k, none⟩ (.int .i64 x)) := by
  obtain ⟨h1, h2, h3, h4, h5, h6⟩ := H
  obtain ⟨a1, a2, a3, a4, a5, a6, a7⟩ := hA
  refine ⟨h1.other ⟨s, k, none⟩ _ (by show s ≠ c; omega), h2.other ⟨s, k, none⟩ _ (by show s ≠ q; omega), h3.other ⟨s, k, none⟩ _ (by show s ≠ p; omega), (h4.set k _).congr fun j hj => ?_, h5.other ⟨s, k, none⟩ _ (by show s ≠ b; omega), h6.but (but_setCell _ s k _) (by omega)⟩
  unfold lyv
  by_cases e : j = k
  · rw [if_pos e, if_neg (by omega)]
    show _ = Value.int .i64 (if j = k then x else z j)
    rw [if_pos e]
  · rw [if_neg e]
    by_cases e5 : j = 5
    · rw [if_pos e5, if_pos e5]
    · rw [if_neg e5, if_neg e5]
      show _ = Value.int .i64 (if j = k then x else z j)
      rw [if_neg e]
/-- the places -/
def lzF (h : Hd) (S t : Int) : Nat → Int := fun j => if j = 0 then 2 else if j = 1 then 2 + h.sl else if j = 2 then 2 + h.sl + 1 else if j = 3 then 2 + h.sl + 1 + 1 else if j = 4 then 2 + h.sl + 1 + 1 + h.jo else if j = 6 then 2 + h.sl + 1 + 1 + h.jo + S else if j = 7 then 2 + h.sl + 1 + 1 + h.jo + S + t else if j = 8 then 2 + h.sl + 1 + 1 + h.jo + S + t + h.se else 0
def lsum (m : Nat) : Int := if m = 1 then 1 else (m : Int) + 1
theorem lsum_eq (m : Nat) : sumZ (fun j => if j = 0 then (m : Int) else 1) (if m = 1 then 1 else 2) = lsum m := by
  unfold lsum
  by_cases h : m = 1
  · subst h
    rfl
  · rw [if_neg h, if_neg h]
    show 0 + (m : Int) + 1 = _
    omega
set_option maxRecDepth 20000 in
set_option maxHeartbeats 2000000 in
theorem lay_core (h : Hd) (w : World) (hk : okH h) (t m N : Nat) (Sm : Int) (ht : t = (h.se.toNat + 8 - 1) / 8) (hm : m = (t + 16 - 1) / 16) (hN : Hid (N = if m = 1 then 1 else 2)) (hSm : Hid (Sm = lsum m)) : Calls Tryd.prog 10 #[.agg (row 24 (hdv h)).toArray] w fun e w' =>
    ∃ b cap, e = .returned (.tuple #[.agg (row 9 (lyv (lzF h Sm t) (.slice (some ⟨b, 0, none⟩) N cap))).toArray, .int .i64 0]) ∧ RowAt b N (lvF m) w' ∧ Ext w w' := by
  have hk0 := hk
  obtain ⟨⟨a1, a2, a3, a4, a5, a6⟩, p1, p2, p3⟩ := hk0
  have ht1 : 1 ≤ t := by omega
  have ht2 : t ≤ 128 := by omega
  have hm1 : 1 ≤ m := by omega
  have hm2 : m ≤ 8 := by omega
  have bse : Hid (1 ≤ h.se ∧ h.se ≤ 1024) := a2
  have bsl : Hid (1 ≤ h.sl ∧ h.sl ≤ 8) := a3
  have bjo : Hid (16 ≤ h.jo ∧ h.jo ≤ 256) := a4
  have bt : Hid (1 ≤ t ∧ t ≤ 128) := ⟨ht1, ht2⟩
  have bm : Hid (1 ≤ m ∧ m ≤ 8) := ⟨hm1, hm2⟩
  have et : Hid (t = (h.se.toNat + 8 - 1) / 8) := ht
  have em : Hid (m = (t + 16 - 1) / 16) := hm
  clear a1 a2 a3 a4 a5 a6 p1 p2 p3 ht1 ht2 hm1 hm2 ht hm
  have H0 : Hid (RowAt w.heap.size 24 (hdv h) (w.alloc (.cells (row 24 (hdv h)).toArray 27))) := RowAt.new w 24 _ 27
  have hE0 : Hid (Ext w (w.alloc (.cells (row 24 (hdv h)).toArray 27))) := (Below.refl _ _).alloc (Nat.le_refl _) _
  go_enter Tryd.func10, Tryd.ntmps10
  go_upto_region 0 with (fail)
  refine wp_region_lit ?_
  refine wpList_to rfl (.pointer (some ⟨w.heap.size, 0, none⟩)) (w.alloc (.cells (row 24 (hdv h)).toArray 27)) (by simp [go_sem]) ?_
  simp only [Act.put, List.setIfInBounds_toArray, List.set_cons_zero, List.set_cons_succ]
  generalize w.alloc (.cells (row 24 (hdv h)).toArray 27) = w1 at *
  obtain ⟨c, hc⟩ : ∃ c, c = w.heap.size := ⟨_, rfl⟩
  have hwc : Hid (w.heap.size ≤ c) := hideit (by omega)
  rw [← hc] at H0 ⊢
  clear hc
  have Q2 := hideit (RowAt.new w1 9 (lyv (fun _ => 0) (.slice none 0 0)) 34)
  have hE2 : Ext w1 (w1.alloc (.cells (row 9 (lyv (fun _ => 0) (.slice none 0 0))).toArray 34)) := (Below.refl _ _).alloc (Nat.le_refl _) _
  have H2 := hideit (H0.out.carry hE2)
  have hcq : Hid (c < w1.heap.size) := hideit H0.out.2.2
  replace hE2 := hideit (Ext.trans hE0.out hE2)
  refine wpList_to rfl (.pointer (some ⟨w1.heap.size, 0, none⟩)) (w1.alloc (.cells (row 9 (lyv (fun _ => 0) (.slice none 0 0))).toArray 34)) (exec_alloc 34 _ rfl (zeroL w1)) ?_
  simp only [Act.put, List.setIfInBounds_toArray, List.set_cons_zero, List.set_cons_succ]
  generalize w1.alloc (.cells (row 9 (lyv (fun _ => 0) (.slice none 0 0))).toArray 34) = w2 at *
  generalize w1.heap.size = q at *
  clear H0 hE0
  go_upto_region 1 with (fail)
  have k := hideit (check_ok h w2 hk)
  refine wp_region_lit ?_
  refine wpList_run rfl (.agg (row 24 (hdv h)).toArray) (exec_loadR 27 (.tmp 1) rfl c 0 24 _ rfl H2.out.range Tryd.underlying27 rfl infoH) ?_
  simp only [Act.put, List.setIfInBounds_toArray, List.set_cons_zero, List.set_cons_succ]
  refine wpList_call rfl (by simp [go_sem]; exact ⟨rfl, rfl⟩) ?_
  refine (k.out).mono ?_
  rintro e w3 ⟨rfl, hE3⟩
  refine ⟨_, rfl, ?_⟩
  simp only [Act.put, List.setIfInBounds_toArray, List.set_cons_zero, List.set_cons_succ]
  have Q3 := hideit (Q2.out.carry hE3)
  have H3 := hideit (H2.out.carry hE3)
  replace hE3 := hideit (Ext.trans hE2.out hE3)
  have hqp : Hid (q < w3.heap.size) := hideit Q3.out.2.2
  clear k H2 Q2 hE2 hk
  have C4 := hideit (RowAt.newOf w3 1 (fun _ => .int .i64 2) 3 #[.int .i64 2] (fun j hj => by
    obtain rfl : j = 0 := by omega
    rfl))
  have X4 : Ext w3 (w3.alloc (.cells #[.int .i64 2] 3)) := (Below.refl _ _).alloc (Nat.le_refl _) _
  have H4 := hideit (H3.out.carry X4)
  have Q4 := hideit (Q3.out.carry X4)
  have hE4 := hideit (Ext.trans hE3.out X4)
  clear X4
  go_upto_region 5 with (fail)
  generalize w3.alloc (.cells #[.int .i64 2] 3) = w4 at *
  generalize w3.heap.size = p at *
  clear H3 Q3 hE3
  have e1 : w4.cell? ⟨c, 1, none⟩ = some (.int .i64 h.se) := H4.out.1 1 (by decide)
  have k := pieces_any h.se.toNat 8 w4 (by have := bse.out; omega) (by decide) (by decide)
  rw [← et.out, show ((h.se.toNat : Nat) : Int) = h.se by have := bse.out; omega] at k
  replace k := hideit k
  go_upto_region 7 with (go_at_call 28; refine k.out.mono ?_; rintro e w9 ⟨rfl, hw9⟩; rw [hw9]; clear hw9)
  clear k e1
  have S5 := hideit (RowAt.new w4 9 (lyv (fun _ => 0) (.slice none 0 0)) 34)
  have X5 : Ext w4 (w4.alloc (.cells (row 9 (lyv (fun _ => 0) (.slice none 0 0))).toArray 34)) := (Below.refl _ _).alloc (Nat.le_refl _) _
  have hps : Hid (p < w4.heap.size) := hideit C4.out.2.2
  have L0 : Hid (LyS w h c q p w4.heap.size c 0 (lvF m) 2 (fun _ => 0) (.slice none 0 0) (w4.alloc (.cells (row 9 (lyv (fun _ => 0) (.slice none 0 0))).toArray 34))) := hideit ⟨H4.out.carry X5, Q4.out.carry X5, C4.out.carry X5, S5.out, ⟨fun j hj => absurd hj (by omega), fun j hj => absurd hj (by omega), (H4.out.carry X5).2.2⟩, Ext.trans hE4.out X5⟩
  have A0 : Hid (Apt w.heap.size c q p w4.heap.size c) := hideit (by have := hwc.out; have := hcq.out; have := hqp.out; have := hps.out; unfold Apt; omega)
  refine wp_region_lit ?_
  refine wpList_to rfl (.pointer (some ⟨w4.heap.size, 0, none⟩)) (w4.alloc (.cells (row 9 (lyv (fun _ => 0) (.slice none 0 0))).toArray 34)) (exec_alloc 34 _ rfl (zeroL w4)) ?_
  simp only [Act.put, List.setIfInBounds_toArray, List.set_cons_zero, List.set_cons_succ]
  generalize w4.alloc (.cells (row 9 (lyv (fun _ => 0) (.slice none 0 0))).toArray 34) = v0 at *
  generalize w4.heap.size = s at *
  clear S5 X5 C4 H4 Q4 hE4 hwc hcq hqp hps
  have e1 : v0.cell? ⟨c, 2, none⟩ = some (.int .i64 (h.sl)) := L0.out.1.1 2 (by decide)
  have k := hideit (part_any p (2) (h.sl) v0 (L0.out.2.2.1.1 0 (by decide)) (L0.out.2.2.1.2.1 0 (by decide)) (by have := bse.out; have := bsl.out; have := bjo.out; have := bt.out; have := bm.out; omega) (by have := bse.out; have := bsl.out; have := bjo.out; have := bt.out; have := bm.out; omega))
  go_upto_region 9 with ((go_at_call 27; refine k.out.mono ?_; rintro e y8 ⟨rfl, hy8⟩; replace hy8 := hideit hy8; have e2 : y8.cell? ⟨s, 0, none⟩ = some (.int .i64 0) := (L0.out.at A0.out 0 (by decide) _ hy8.out).1; have e3 : y8.frozen? ⟨s, 0, none⟩ = false := (L0.out.at A0.out 0 (by decide) _ hy8.out).2; clear k e1))
  have L8 := hideit (L0.out.step A0.out 0 (by decide) (2 + h.sl) hy8.out)
  clear e2 e3 L0 hy8
  generalize y8.setCell ⟨s, 0, none⟩ (.int .i64 (2)) = v8 at *
  have k := hideit (part_any p (2 + h.sl) (1) v8 (L8.out.2.2.1.1 0 (by decide)) (L8.out.2.2.1.2.1 0 (by decide)) (by have := bse.out; have := bsl.out; have := bjo.out; have := bt.out; have := bm.out; omega) (by have := bse.out; have := bsl.out; have := bjo.out; have := bt.out; have := bm.out; omega))
  go_upto_region 10 with ((go_at_call 27; refine k.out.mono ?_; rintro e y9 ⟨rfl, hy9⟩; replace hy9 := hideit hy9; have e2 : y9.cell? ⟨s, 1, none⟩ = some (.int .i64 0) := (L8.out.at A0.out 1 (by decide) _ hy9.out).1; have e3 : y9.frozen? ⟨s, 1, none⟩ = false := (L8.out.at A0.out 1 (by decide) _ hy9.out).2; clear k))
  have L9 := hideit (L8.out.step A0.out 1 (by decide) (2 + h.sl + 1) hy9.out)
  clear e2 e3 L8 hy9
  generalize y9.setCell ⟨s, 1, none⟩ (.int .i64 (2 + h.sl)) = v9 at *
  have k := hideit (part_any p (2 + h.sl + 1) (1) v9 (L9.out.2.2.1.1 0 (by decide)) (L9.out.2.2.1.2.1 0 (by decide)) (by have := bse.out; have := bsl.out; have := bjo.out; have := bt.out; have := bm.out; omega) (by have := bse.out; have := bsl.out; have := bjo.out; have := bt.out; have := bm.out; omega))
  go_upto_region 11 with ((go_at_call 27; refine k.out.mono ?_; rintro e y10 ⟨rfl, hy10⟩; replace hy10 := hideit hy10; have e2 : y10.cell? ⟨s, 2, none⟩ = some (.int .i64 0) := (L9.out.at A0.out 2 (by decide) _ hy10.out).1; have e3 : y10.frozen? ⟨s, 2, none⟩ = false := (L9.out.at A0.out 2 (by decide) _ hy10.out).2; clear k))
  have L10 := hideit (L9.out.step A0.out 2 (by decide) (2 + h.sl + 1 + 1) hy10.out)
  clear e2 e3 L9 hy10
  generalize y10.setCell ⟨s, 2, none⟩ (.int .i64 (2 + h.sl + 1)) = v10 at *
  have e1 : v10.cell? ⟨c, 3, none⟩ = some (.int .i64 (h.jo)) := L10.out.1.1 3 (by decide)
  have k := hideit (part_any p (2 + h.sl + 1 + 1) (h.jo) v10 (L10.out.2.2.1.1 0 (by decide)) (L10.out.2.2.1.2.1 0 (by decide)) (by have := bse.out; have := bsl.out; have := bjo.out; have := bt.out; have := bm.out; omega) (by have := bse.out; have := bsl.out; have := bjo.out; have := bt.out; have := bm.out; omega))
  go_upto_region 12 with ((go_at_call 27; refine k.out.mono ?_; rintro e y11 ⟨rfl, hy11⟩; replace hy11 := hideit hy11; have e2 : y11.cell? ⟨s, 3, none⟩ = some (.int .i64 0) := (L10.out.at A0.out 3 (by decide) _ hy11.out).1; have e3 : y11.frozen? ⟨s, 3, none⟩ = false := (L10.out.at A0.out 3 (by decide) _ hy11.out).2; clear k e1))
  have L11 := hideit (L10.out.step A0.out 3 (by decide) (2 + h.sl + 1 + 1 + h.jo) hy11.out)
  clear e2 e3 L10 hy11
  generalize y11.setCell ⟨s, 3, none⟩ (.int .i64 (2 + h.sl + 1 + 1)) = v11 at *
  have k := levels_any t v11 bt.out.1 bt.out.2 m em.out
  rw [← hN.out] at k
  have hN1 : Hid (1 ≤ N ∧ N ≤ 2) := hideit (by rw [hN.out]; split <;> omega)
  replace k := hideit k
  go_upto_region 13 with (go_at_call 29; refine k.out.mono ?_; rintro e y12 ⟨lv, rfl, O12, X12⟩; obtain ⟨lb, cap, rfl, hlb, hcap, hmx, R12⟩ := O12.lies (by have := hN1.out; omega); replace X12 := hideit X12; replace R12 := hideit R12; replace hlb := hideit hlb; clear O12 hcap hmx; have e2 : y12.cell? ⟨s, 5, none⟩ = some (.slice none 0 0) := (L11.out.2.2.2.1.carry X12.out).1 5 (by decide); have e3 : y12.frozen? ⟨s, 5, none⟩ = false := (L11.out.2.2.2.1.carry X12.out).2.1 5 (by decide); clear k)
  have LA := L11.out.lev (v' := (.slice (some ⟨lb, 0, none⟩) N cap)) A0.out X12.out R12.out hlb.out
  have L12 := hideit LA.1
  have A12 := hideit LA.2
  clear LA e2 e3 L11 X12 R12 hlb A0
  generalize y12.setCell ⟨s, 5, none⟩ (.slice (some ⟨lb, 0, none⟩) N cap) = v12 at *
  have e5 : v12.cell? ⟨s, 5, none⟩ = some (.slice (some ⟨lb, 0, none⟩) N cap) := L12.out.2.2.2.1.1 5 (by decide)
  have k1 := sum_list lb N cap (fun j => if j = 0 then (m : Int) else 1) v12 (L12.out.2.2.2.2.1.congr fun j hj => by
    unfold lvF
    by_cases e : j = 0
    · rw [if_pos e, if_pos e]
    · rw [if_neg e, if_neg e]) (fun j hj => by have := bm.out; split <;> omega) (by have := hN1.out; omega)
  rw [show sumZ (fun j => if j = 0 then (m : Int) else 1) N = lsum m by rw [hN.out]; exact lsum_eq m] at k1
  rw [← hSm.out] at k1
  have bS : Hid (1 ≤ Sm ∧ Sm ≤ 9) := hideit (by have := bm.out; rw [hSm.out]; unfold lsum; split <;> omega)
  replace k1 := hideit k1
  have k := hideit (part_any p (2 + h.sl + 1 + 1 + h.jo) (Sm) v12 (L12.out.2.2.1.1 0 (by decide)) (L12.out.2.2.1.2.1 0 (by decide)) (by have := bse.out; have := bsl.out; have := bjo.out; have := bt.out; have := bm.out; have := bS.out; omega) (by have := bse.out; have := bsl.out; have := bjo.out; have := bt.out; have := bm.out; have := bS.out; omega))
  go_upto_region 14 with (first | (go_at_call 30; refine k1.out.mono ?_; rintro e w9 ⟨rfl, hw9⟩; rw [hw9]; clear hw9 k1) | (go_at_call 27; refine k.out.mono ?_; rintro e y13 ⟨rfl, hy13⟩; replace hy13 := hideit hy13; have e2 : y13.cell? ⟨s, 4, none⟩ = some (.int .i64 0) := (L12.out.at A12.out 4 (by decide) _ hy13.out).1; have e3 : y13.frozen? ⟨s, 4, none⟩ = false := (L12.out.at A12.out 4 (by decide) _ hy13.out).2; clear k))
  have L13 := hideit (L12.out.step A12.out 4 (by decide) (2 + h.sl + 1 + 1 + h.jo + Sm) hy13.out)
  clear e2 e3 L12 hy13
  generalize y13.setCell ⟨s, 4, none⟩ (.int .i64 (2 + h.sl + 1 + 1 + h.jo)) = v13 at *
  clear e5
  have k := hideit (part_any p (2 + h.sl + 1 + 1 + h.jo + Sm) ((t : Int)) v13 (L13.out.2.2.1.1 0 (by decide)) (L13.out.2.2.1.2.1 0 (by decide)) (by have := bse.out; have := bsl.out; have := bjo.out; have := bt.out; have := bm.out; have := bS.out; omega) (by have := bse.out; have := bsl.out; have := bjo.out; have := bt.out; have := bm.out; have := bS.out; omega))
  go_upto_region 15 with ((go_at_call 27; refine k.out.mono ?_; rintro e y14 ⟨rfl, hy14⟩; replace hy14 := hideit hy14; have e2 : y14.cell? ⟨s, 6, none⟩ = some (.int .i64 0) := (L13.out.at A12.out 6 (by decide) _ hy14.out).1; have e3 : y14.frozen? ⟨s, 6, none⟩ = false := (L13.out.at A12.out 6 (by decide) _ hy14.out).2; clear k))
  have L14 := hideit (L13.out.step A12.out 6 (by decide) (2 + h.sl + 1 + 1 + h.jo + Sm + (t : Int)) hy14.out)
  clear e2 e3 L13 hy14
  generalize y14.setCell ⟨s, 6, none⟩ (.int .i64 (2 + h.sl + 1 + 1 + h.jo + Sm)) = v14 at *
  have e1 : v14.cell? ⟨c, 1, none⟩ = some (.int .i64 (h.se)) := L14.out.1.1 1 (by decide)
  have k := hideit (part_any p (2 + h.sl + 1 + 1 + h.jo + Sm + (t : Int)) (h.se) v14 (L14.out.2.2.1.1 0 (by decide)) (L14.out.2.2.1.2.1 0 (by decide)) (by have := bse.out; have := bsl.out; have := bjo.out; have := bt.out; have := bm.out; have := bS.out; omega) (by have := bse.out; have := bsl.out; have := bjo.out; have := bt.out; have := bm.out; have := bS.out; omega))
  go_upto_region 16 with ((go_at_call 27; refine k.out.mono ?_; rintro e y15 ⟨rfl, hy15⟩; replace hy15 := hideit hy15; have e2 : y15.cell? ⟨s, 7, none⟩ = some (.int .i64 0) := (L14.out.at A12.out 7 (by decide) _ hy15.out).1; have e3 : y15.frozen? ⟨s, 7, none⟩ = false := (L14.out.at A12.out 7 (by decide) _ hy15.out).2; clear k e1))
  have L15 := hideit (L14.out.step A12.out 7 (by decide) (2 + h.sl + 1 + 1 + h.jo + Sm + (t : Int) + h.se) hy15.out)
  clear e2 e3 L14 hy15
  generalize y15.setCell ⟨s, 7, none⟩ (.int .i64 (2 + h.sl + 1 + 1 + h.jo + Sm + (t : Int))) = v15 at *
  have e1 : v15.cell? ⟨p, 0, none⟩ = some (.int .i64 (2 + h.sl + 1 + 1 + h.jo + Sm + (t : Int) + h.se)) := L15.out.2.2.1.1 0 (by decide)
  have e2 : v15.cell? ⟨s, 8, none⟩ = some (.int .i64 0) := L15.out.2.2.2.1.1 8 (by decide)
  have e3 : v15.frozen? ⟨s, 8, none⟩ = false := L15.out.2.2.2.1.2.1 8 (by decide)
  go_upto_region 17 with (fail)
  have L16 := hideit (L15.out.last A12.out 8 (by decide))
  clear e1 e2 e3 L15
  generalize v15.setCell ⟨s, 8, none⟩ (.int .i64 (2 + h.sl + 1 + 1 + h.jo + Sm + (t : Int) + h.se)) = v16 at *
  have S16 : Hid (RowAt s 9 (lyv (lzF h Sm t) (.slice (some ⟨lb, 0, none⟩) N cap)) v16) := hideit (L16.out.2.2.2.1.congr fun j hj => by
    rcases (by omega : j = 0 ∨ j = 1 ∨ j = 2 ∨ j = 3 ∨ j = 4 ∨ j = 5 ∨ j = 6 ∨ j = 7 ∨ j = 8) with rfl | rfl | rfl | rfl | rfl | rfl | rfl | rfl | rfl <;> rfl)
  have Q16 := hideit L16.out.2.1
  have R16 := hideit L16.out.2.2.2.2.1
  have hE16 := hideit L16.out.2.2.2.2.2
  have hq := hideit (show w.heap.size ≤ q by have := A12.out; unfold Apt at this; omega)
  have hlq := hideit (show q ≠ lb by have := A12.out; unfold Apt at this; omega)
  clear L16 A12
  refine wp_region_lit ?_
  refine wpList_run rfl (.agg (row 9 (lyv (lzF h Sm t) (.slice (some ⟨lb, 0, none⟩) N cap))).toArray) (exec_loadR 34 (.tmp 8) rfl s 0 9 _ rfl S16.out.range Tryd.underlying34 rfl infoL) ?_
  simp only [Act.put, List.setIfInBounds_toArray, List.set_cons_zero, List.set_cons_succ]
  refine wpList_store_mid rfl 34 (.tmp 2) (.tmp 55) rfl q 0 (row 9 (lyv (lzF h Sm t) (.slice (some ⟨lb, 0, none⟩) N cap))).toArray rfl rfl (by rw [row_size]; exact Q16.out.there) (by rw [row_size]; exact infoL) (row_one fun j _ => lyv_one _ rfl j) ?_
  rw [show (row 9 (lyv (lzF h Sm t) (.slice (some ⟨lb, 0, none⟩) N cap))).toArray.toList = row 9 (lyv (lzF h Sm t) (.slice (some ⟨lb, 0, none⟩) N cap)) from rfl]
  have h9 : Hid (RowAt q 9 (lyv (lzF h Sm t) (.slice (some ⟨lb, 0, none⟩) N cap)) (v16.setCells q 0 (row 9 (lyv (lzF h Sm t) (.slice (some ⟨lb, 0, none⟩) N cap))))) := hideit Q16.out.cells
  have R9 := hideit (R16.out.cellsOther hlq.out (row 9 (lyv (lzF h Sm t) (.slice (some ⟨lb, 0, none⟩) N cap))) 0)
  have hE9 := hideit (below_setCells q hq.out (row 9 (lyv (lzF h Sm t) (.slice (some ⟨lb, 0, none⟩) N cap))) 0 _ hE16.out)
  generalize v16.setCells q 0 (row 9 (lyv (lzF h Sm t) (.slice (some ⟨lb, 0, none⟩) N cap))) = v17 at *
  clear Q16 S16 R16 hE16
  simp only [Act.put]
  go_wp2
  exact bodyPost_ret (ret_row2 Tryd.results10 rfl h9.out Tryd.underlying34 rfl infoL) rfl ⟨lb, cap, rfl, R9.out, hE9.out⟩
theorem lay_ok (h : Hd) (w : World) (hk : okH h) (t m : Nat) (ht : t = (h.se.toNat + 8 - 1) / 8) (hm : m = (t + 16 - 1) / 16) : Calls Tryd.prog 10 #[.agg (row 24 (hdv h)).toArray] w fun e w' =>
    ∃ b cap, e = .returned (.tuple #[.agg (row 9 (lyv (lzF h (lsum m) t) (.slice (some ⟨b, 0, none⟩) (if m = 1 then 1 else 2) cap))).toArray, .int .i64 0]) ∧ RowAt b (if m = 1 then 1 else 2) (lvF m) w' ∧ Ext w w' := lay_core h w hk t m _ _ ht hm rfl rfl
end Go.Proofs.YtenlokmoijeehaaDoor
