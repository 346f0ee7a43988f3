/-
  What a Reader tells of a list of epochs.
-/
import Derived.Test.YtomalmnpojcloaaKy4
namespace Go.Proofs.Ytomalmnpojcloaa
open Go.RowKit Go.BigFrame
theorem wpList_bslice {P : Program} {w : World} {ops : Array Oper} {rest : List Oper} {o : Oper} {a : Act} {Q : Exit → Act → World → Prop} (hg : o.guard = none) (t : TypeId) (n : Nat) (l : List (Nat × Operand)) (ho : o.op = .buildSlice t n l.toArray) (v : Value) (w' : World)
    (hr : (Instr.buildSlice t n (l.map fun x => (x.1, a.eval x.2)).toArray).run P w = .ok v w') (h : wpList P ops Q rest (a.put o.dst v) w') : wpList P ops Q (o :: rest) a w := by
  refine wpList_to hg v w' ?_ h
  unfold execOp
  rw [ho]
  simp only [List.map_toArray, Sem.run_bind, hr, Result.andThen_ok, Sem.run_pure]
set_option maxRecDepth 20000 in
theorem bs51 (x : Int) (f : Nat → BitVec 8) (w : World) : (Instr.buildSlice 35 1 #[(0, .agg (row 65 (epv x f)).toArray)]).run Try.prog w = .ok (.slice (some ⟨w.heap.size, 0, none⟩) 1 1) (w.alloc (.cells (row 65 (epv x f)).toArray 51)) := by kernel_rfl
theorem elem35 : ElemK Try.prog 35 51 65 72 := elem_k Try.underlying35 (by kernel_rfl) (by kernel_rfl) (by kernel_rfl)
/-- the cells of a list of epochs -/
def epL (xs : Nat → Int) (fs : Nat → Nat → BitVec 8) (j : Nat) : Value := epv (xs (j / 65)) (fs (j / 65)) (j % 65)
theorem OwnK.ev {base n : Nat} {v : Value} {xs : Nat → Int} {fs : Nat → Nat → BitVec 8} {w : World} (h : OwnK 65 base 51 v n (epL xs fs) w) : EV v n xs fs w := by
  rcases Nat.eq_zero_or_pos n with h0 | h0
  · subst h0
    rcases h.2 with ⟨rfl, _⟩ | ⟨g, cap, cur, rfl, _, hg, hc, _⟩
    · exact .inl ⟨rfl, rfl⟩
    · exact .inr ⟨_, _, cap, rfl, hc, fun i hi => by omega⟩
  · obtain ⟨g, cap, rfl, _, hc, _, hR⟩ := h.lies h0
    refine .inr ⟨g, 0, cap, rfl, hc, fun i hi j hj => ?_⟩
    rw [Nat.zero_add, hR.1 (i * 65 + j) (by omega)]
    unfold epL
    rw [show (i * 65 + j) / 65 = i by omega, show (i * 65 + j) % 65 = j by omega]
theorem but_grown {r : Nat} {w X Y : World} {row : Option Nat} (h : But r w X) (k : X.grownBy Y row) (hb : ∀ q, row = some q → w.heap.size ≤ q) : But r w Y :=
  ⟨k.os.trans h.os, k.tape.trans h.tape, k.output.trans h.output, Nat.le_trans h.size k.size, fun i hi hne => (k.block i (Nat.lt_of_lt_of_le hi h.size) (fun hh => by have := hb i hh.symm; omega)).trans (h.block i hi hne)⟩
theorem get_nil (w : World) : Sem.run Try.prog (binOp .eql 67 (.func (.func 38) #[] #[]) .nilFunc) w = .ok (.bool false) w := by kernel_rfl
theorem Rd.badcell {lo c l : Nat} {f : Nat → BitVec 8} {bad : Bool} {w : World} (h : Rd lo c l f bad w) : w.cell? ⟨c, 1, none⟩ = some (.bool bad) := by
  obtain ⟨v, h1, _⟩ := h
  exact h1.bad
def xG (f : Nat → BitVec 8) (i : Nat) : Int := ((leN (shF f (68 * i)) 4).toNat : Int)
def fG (f : Nat → BitVec 8) (i : Nat) : Nat → BitVec 8 := fun j => shF f (68 * i) (4 + j)
set_option maxRecDepth 20000 in
set_option maxHeartbeats 2000000 in
theorem get_any (lo r l n : Nat) (f : Nat → BitVec 8) (w : World) (h : Rd lo r l f false w) (hlo : lo ≤ r) (hn : n ≤ l) (hl : l ≤ 1000) :
    Calls Try.prog 36 #[.pointer (some ⟨r, 0, none⟩), .int .i64 (n : Int), .func (.func 38) #[] #[]] w fun e w' => ∃ v, e = .returned v ∧ But r w w' ∧ ((68 * n ≤ l ∧ OwnK 65 w.heap.size 51 v n (epL (xG f) (fG f)) w' ∧ Rd lo r (l - 68 * n) (shF f (68 * n)) false w') ∨ (l < 68 * n ∧ v = .slice none 0 0 ∧ ∃ k p, Rd lo r k p true w')) := by
  have hrw := hideit h.lt
  have hlo9 := hideit hlo
  replace h := hideit h
  have n0 : (0 : Int) ≤ (n : Int) := by omega
  have n1 : (n : Int) ≤ 1000 := by omega
  have hgn := get_nil
  go_enter Try.func36, Try.ntmps36
  go_wp2_with (go_at_call 44; refine (rhas_ok lo r l n f false _ h.out hn).mono ?_; rintro e w' ⟨rfl, hww⟩; replace hww := hww.symm; subst hww)
  go_loopw [7, 22] (fun v i X => ∃ k : Nat, k ≤ n ∧ 68 * k ≤ l ∧ i = .int .i64 k ∧ OwnK 65 w.heap.size 51 v k (epL (xG f) (fG f)) X ∧ Rd lo r (l - 68 * k) (shF f (68 * k)) false X ∧ But r w X) (fun _ i _ => n - (intOf i).toNat)
  case atStart => exact ⟨0, Nat.zero_le _, Nat.zero_le _, rfl, ownK_nil _ _ _ _ _, by
    have e1 : shF f (68 * 0) = f := by funext j; unfold shF; rw [Nat.mul_zero, Nat.zero_add]
    rw [e1, Nat.mul_zero, Nat.sub_zero]
    exact h.out, But.refl _ _⟩
  case round =>
    clear h
    obtain ⟨k, hk, hkl, rfl, hO, hR, hB⟩ := hrel
    by_cases hlt : k < n
    · have k0 : (0 : Int) ≤ (k : Int) := by omega
      have k1 : (k : Int) < (n : Int) := by omega
      obtain ⟨ov, cv, rfl⟩ := hO.form
      have hnb : Hid ((Value.slice ov k cv).ownBlock ≠ some r) := hideit (fun hh => by have := (hO.lt r hh).1; have := hrw.out; omega)
      by_cases hlN : 68 * (k + 1) ≤ l
      · have kk := get1_ok lo r (l - 68 * k) (shF f (68 * k)) wr hR hlo9.out (by omega) (by omega)
        rw [shF_two, show 68 * k + 68 = 68 * (k + 1) by omega, show l - 68 * k - 68 = l - 68 * (k + 1) by omega] at kk
        change Calls Try.prog 38 _ wr fun e w' => e = .returned (.agg (row 65 (epv (xG f k) (fG f k))).toArray) ∧ _ ∧ _ at kk
        replace kk := hideit kk
        replace hO := hideit hO
        replace hB := hideit hB
        clear hR
        go_upto_region 6 with (fail)
        refine wp_region_lit ?_
        refine wpList_run rfl (.func (.func 38) #[] #[]) (by simp [go_sem]) ?_
        simp only [Act.put, List.setIfInBounds_toArray, List.set_cons_zero, List.set_cons_succ]
        refine wpList_run rfl (.pointer (some ⟨r, 0, none⟩)) (by simp [go_sem]) ?_
        simp only [Act.put, List.setIfInBounds_toArray, List.set_cons_zero, List.set_cons_succ]
        refine wpList_call rfl (by simp [go_sem]; exact ⟨rfl, rfl⟩) ?_
        refine kk.out.mono ?_
        rintro e w1 ⟨rfl, hR1, hB1⟩
        refine ⟨_, rfl, ?_⟩
        simp only [Act.put, List.setIfInBounds_toArray, List.set_cons_zero, List.set_cons_succ]
        have hO1 := hideit (hO.out.but hB1 hnb.out)
        have hL1 := hideit (hB.out.trans hB1)
        obtain ⟨H1, hA1, H2, hA2⟩ := made51 w1 (xG f k) (fG f k)
        obtain ⟨s, hs⟩ : ∃ s, s = w1.heap.size := ⟨_, rfl⟩
        rw [← hs] at H1 H2 hA2
        refine wpList_to rfl (.pointer (some ⟨s, 0, none⟩)) (w1.alloc (.cells zk51 51)) (by rw [hs]; exact alloc51 rfl) ?_
        simp only [Act.put, List.setIfInBounds_toArray, List.set_cons_zero, List.set_cons_succ]
        refine wpList_store_mid rfl 51 (.tmp 8) (.tmp 26) rfl s 0 (row 65 (epv (xG f k) (fG f k))).toArray rfl rfl (by rw [row_size]; exact H1.there) (by rw [row_size]; exact info51) (row_one (epv_one _ _)) ?_
        rw [show (row 65 (epv (xG f k) (fG f k))).toArray.toList = row 65 (epv (xG f k) (fG f k)) from rfl]
        have O2 := hideit (hO1.out.ext hA2)
        have R2 := hideit (hR1.ext hA2)
        have S2 := hideit H2
        have L2 := hideit (hL1.out.ext hA2)
        clear H1 hA1 H2 hA2 hs kk hO hB hO1 hL1 hR1 hB1
        generalize (w1.alloc (.cells zk51 51)).setCells s 0 (row 65 (epv (xG f k) (fG f k))) = w2 at *
        simp only [Act.put]
        have e1 := R2.out.badcell
        go_upto_region 9 with (fail)
        clear e1
        have hE3 : Ext w2 (w2.alloc (.cells (row 65 (epv (xG f k) (fG f k))).toArray 51)) := (Below.refl _ _).alloc (Nat.le_refl _) _
        have hN3 : Hid (LieAt ⟨w2.heap.size, 0, none⟩ (1 * 65) (epv (xG f k) (fG f k)) (w2.alloc (.cells (row 65 (epv (xG f k) (fG f k))).toArray 51))) := (RowAt.new w2 65 (epv (xG f k) (fG f k)) 51).lie (1 * 65) (by decide)
        have O3 := hideit (O2.out.ext hE3)
        have R3 := hideit (R2.out.ext hE3)
        have L3 := hideit (L2.out.ext hE3)
        refine wp_region_lit ?_
        refine wpList_run rfl (.slice ov k cv) (by simp [go_sem]) ?_
        simp only [Act.put, List.setIfInBounds_toArray, List.set_cons_zero, List.set_cons_succ]
        refine wpList_load_mid rfl 51 (.tmp 8) rfl s 0 rfl (row 65 (epv (xG f k) (fG f k))) _ S2.out.range Try.underlying51 rfl (by rw [row_length]; exact info51) ?_
        simp only [Act.put, List.setIfInBounds_toArray, List.set_cons_zero, List.set_cons_succ]
        refine wpList_bslice rfl 35 1 [(0, .tmp 32)] rfl (.slice (some ⟨w2.heap.size, 0, none⟩) 1 1) (w2.alloc (.cells (row 65 (epv (xG f k) (fG f k))).toArray 51)) (bs51 _ _ _) ?_
        simp only [Act.put, List.setIfInBounds_toArray, List.set_cons_zero, List.set_cons_succ]
        clear hE3 O2 R2 L2 S2
        obtain ⟨Y, hY⟩ : ∃ Y, Y = w2.alloc (.cells (row 65 (epv (xG f k) (fG f k))).toArray 51) := ⟨_, rfl⟩
        rw [← hY] at hN3 O3 R3 L3 ⊢
        clear hY
        have hsz : Hid (w.heap.size ≤ Y.heap.size) := hideit L3.out.size
        refine wpList_growK (n := k) (base := w.heap.size) elem35 (by decide) rfl (.tmp 31) (.tmp 33) rfl rfl O3.out ⟨w2.heap.size, 0, none⟩ 1 1 (epv (xG f k) (fG f k)) (epL (xG f) (fG f)) rfl hN3.out (fun j hj => epv_one _ _ j (by omega)) (fun _ _ => rfl) (fun j hj => by unfold epL; rw [show (k * 65 + j) / 65 = k by omega, show (k * 65 + j) % 65 = j by omega]) (by omega) (by omega) hsz.out ?_
        intro v4 w4 hO4 hg4
        have L4 := hideit (but_grown L3.out hg4 (fun q hq => (O3.out.lt q hq).1))
        have R4 := hideit (R3.out.below (B := w.heap.size) hrw.out (below_grown hsz.out hg4 fun q hq => (O3.out.lt q hq).1))
        replace hO4 := hideit hO4
        clear O3 R3 L3 hN3 hg4 hsz
        simp only [Act.put, List.setIfInBounds_toArray, List.set_cons_zero, List.set_cons_succ]
        go_wp2
        exact ⟨⟨k + 1, by omega, by omega, by go_num, hO4.out, R4.out, L4.out⟩, by simp [intOf]; omega⟩
      · have kk := hideit (get1_not lo r (l - 68 * k) (shF f (68 * k)) wr hR hlo9.out (by omega))
        replace hB := hideit hB
        clear hR hO
        go_upto_region 6 with (fail)
        refine wp_region_lit ?_
        refine wpList_run rfl (.func (.func 38) #[] #[]) (by simp [go_sem]) ?_
        simp only [Act.put, List.setIfInBounds_toArray, List.set_cons_zero, List.set_cons_succ]
        refine wpList_run rfl (.pointer (some ⟨r, 0, none⟩)) (by simp [go_sem]) ?_
        simp only [Act.put, List.setIfInBounds_toArray, List.set_cons_zero, List.set_cons_succ]
        refine wpList_call rfl (by simp [go_sem]; exact ⟨rfl, rfl⟩) ?_
        refine kk.out.mono ?_
        rintro e w1 ⟨x9, g9, k9, p9, rfl, hR1, hB1⟩
        refine ⟨_, rfl, ?_⟩
        simp only [Act.put, List.setIfInBounds_toArray, List.set_cons_zero, List.set_cons_succ]
        have hL1 := hideit (hB.out.trans hB1)
        obtain ⟨H1, hA1, H2, hA2⟩ := made51 w1 x9 g9
        obtain ⟨s, hs⟩ : ∃ s, s = w1.heap.size := ⟨_, rfl⟩
        rw [← hs] at H1 H2 hA2
        refine wpList_to rfl (.pointer (some ⟨s, 0, none⟩)) (w1.alloc (.cells zk51 51)) (by rw [hs]; exact alloc51 rfl) ?_
        simp only [Act.put, List.setIfInBounds_toArray, List.set_cons_zero, List.set_cons_succ]
        refine wpList_store_mid rfl 51 (.tmp 8) (.tmp 26) rfl s 0 (row 65 (epv x9 g9)).toArray rfl rfl (by rw [row_size]; exact H1.there) (by rw [row_size]; exact info51) (row_one (epv_one _ _)) ?_
        rw [show (row 65 (epv x9 g9)).toArray.toList = row 65 (epv x9 g9) from rfl]
        have R2 := hideit (hR1.ext hA2)
        have L2 := hideit (hL1.out.ext hA2)
        clear H1 hA1 H2 hA2 hs kk hB hL1 hR1 hB1
        generalize (w1.alloc (.cells zk51 51)).setCells s 0 (row 65 (epv x9 g9)) = w2 at *
        simp only [Act.put]
        have e1 := R2.out.badcell
        go_wp2
        go_ret
        exact ⟨_, rfl, L2.out, .inr ⟨by omega, rfl, k9, p9, R2.out⟩⟩
    · obtain rfl : k = n := by omega
      obtain ⟨ov, cv, rfl⟩ := hO.form
      replace hO := hideit hO
      replace hR := hideit hR
      replace hB := hideit hB
      go_wp2
      go_ret
      exact ⟨_, rfl, hB.out, .inl ⟨hkl, hO.out, hR.out⟩⟩
set_option maxRecDepth 20000 in
set_option maxHeartbeats 2000000 in
theorem get_far (lo r l n : Nat) (f : Nat → BitVec 8) (w : World) (h : Rd lo r l f false w) (hn : l < n) :
    Calls Try.prog 36 #[.pointer (some ⟨r, 0, none⟩), .int .i64 (n : Int), .func (.func 38) #[] #[]] w fun e w' => e = .returned (.slice none 0 0) ∧ But r w w' ∧ Rd lo r l f true w' := by
  have k := hideit (rhas_no lo r l (n : Int) f false w h (.inr (by omega)))
  have hgn := get_nil
  clear h
  go_enter Try.func36, Try.ntmps36
  go_wp2_with (go_at_call 44; refine k.out.mono ?_; rintro e w' ⟨rfl, h1, h2⟩; replace h1 := hideit h1; replace h2 := hideit h2)
  go_ret
  exact ⟨rfl, h2.out, h1.out⟩
end Go.Proofs.Ytomalmnpojcloaa
