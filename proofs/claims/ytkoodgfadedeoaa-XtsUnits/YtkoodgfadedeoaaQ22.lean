/-
  Bytes that are made: zeros, in a block of the call's own. Units that may not be; what must come of every program.
-/
import Derived.Test.YtkoodgfadedeoaaQ15
import Derived.Test.YtkoodgfadedeoaaQ6
import Derived.OwnWalk
import Derived.Test.YtkoodgfadedeoaaQ20
import Derived.Test.YtkoodgfadedeoaaQ21
namespace Go.Proofs.Ytkoodgfadedeoaa
open Go.RowKit Go.BigFrame
theorem made_row (k : Nat) : (madeCells (Value.int .u8 0).cells (k * 1)).toList = row k (yv fun _ => 0#8) := by
  apply List.ext_getElem?
  intro i
  by_cases h : i < k
  · rw [row_get k _ i h]
    simp [madeCells, Value.cells, h, Nat.mod_one, yv]
  · rw [List.getElem?_eq_none (by simp [madeCells]; omega), List.getElem?_eq_none (by rw [row_length]; omega)]
/-- make([]byte, n) -/
theorem wpList_made {P : Program} {t e : TypeId} (w : World) {ops : Array Oper} {rest : List Oper} {o : Oper} {a : Act} {Q : Exit → Act → World → Prop}
    (hu : P.underlying t = some (.slice e)) (hi : (P.info? e).map (fun i => (i.zero, i.size, i.bytes)) = some (some (.int .u8 0), 1, 1)) (hg : o.guard = none) (l c : Operand) (hop : o.op = Op.makeSlice t l c)
    (n : Nat) (hl : a.eval l = .int .i64 (n : Int)) (hc : a.eval c = .int .i64 (n : Int)) (b : n ≤ 140737488355328)
    (hK : ∀ w', OwnB w.heap.size e (.slice (some ⟨w.heap.size, 0, none⟩) n n) n (yv fun _ => 0#8) w' → Ext w w' → wpList P ops Q rest (a.put o.dst (.slice (some ⟨w.heap.size, 0, none⟩) n n)) w') :
    wpList P ops Q (o :: rest) a w := by
  obtain ⟨ti, hi1, hi2, hi3, hi4⟩ := info_parts hi
  refine wpList_make_full w hg l c t hop w.heap.size e ti (.int .u8 0) 1 hu hi1 hi2 hi3 .i64 .i64 (n : Int) (n : Int) n hl hc rfl rfl (by rw [hi4]; omega) (by unfold maxLen; omega) (Nat.le_refl _) ?_
  intro w1 hO hg1
  rw [made_row n] at hO
  exact hK w1 hO ⟨hg1.os, hg1.tape, hg1.output, hg1.size, fun k hk => hg1.block k hk (by simp)⟩
end Go.Proofs.Ytkoodgfadedeoaa
namespace Go.Proofs.Ytkoodgfadedeoaa
open Go.RowKit Go.BigFrame
theorem xenc_bad (q : Addr) (u : Value) (a : Option Addr) (l cap : Nat) (h : l < 16 ∨ 65536 < l) (w : World) :
    Calls Try.prog 21 #[.pointer (some q), u, .slice a l cap] w fun e w' => e = .returned (.tuple #[.slice none 0 0, .int .i64 30]) ∧ w' = w := by
  go_enter Try.func21, Try.ntmps21
  go_wp2_with (go_at_call 39; refine (refusal_bad q a l cap h _).mono ?_; rintro e w0 ⟨rfl, rfl⟩)
  refine bodyPost_ret (results_tmp2 Try.results21 _ _ _) rfl ?_
  exact ⟨rfl, rfl⟩
theorem xenc_nil (u v : Value) (w : World) :
    Calls Try.prog 21 #[.pointer none, u, v] w fun e w' => e = .returned (.tuple #[.slice none 0 0, .int .i64 6]) ∧ w' = w := by
  go_enter Try.func21, Try.ntmps21
  go_wp2_with (go_at_call 39; refine (refusal_nil v _).mono ?_; rintro e w0 ⟨rfl, rfl⟩)
  refine bodyPost_ret (results_tmp2 Try.results21 _ _ _) rfl ?_
  exact ⟨rfl, rfl⟩
theorem xdec_bad (q : Addr) (u : Value) (a : Option Addr) (l cap : Nat) (h : l < 16 ∨ 65536 < l) (w : World) :
    Calls Try.prog 23 #[.pointer (some q), u, .slice a l cap] w fun e w' => e = .returned (.tuple #[.slice none 0 0, .int .i64 30]) ∧ w' = w := by
  go_enter Try.func23, Try.ntmps23
  go_wp2_with (go_at_call 39; refine (refusal_bad q a l cap h _).mono ?_; rintro e w0 ⟨rfl, rfl⟩)
  refine bodyPost_ret (results_tmp2 Try.results23 _ _ _) rfl ?_
  exact ⟨rfl, rfl⟩
theorem xdec_nil (u v : Value) (w : World) :
    Calls Try.prog 23 #[.pointer none, u, v] w fun e w' => e = .returned (.tuple #[.slice none 0 0, .int .i64 6]) ∧ w' = w := by
  go_enter Try.func23, Try.ntmps23
  go_wp2_with (go_at_call 39; refine (refusal_nil v _).mono ?_; rintro e w0 ⟨rfl, rfl⟩)
  refine bodyPost_ret (results_tmp2 Try.results23 _ _ _) rfl ?_
  exact ⟨rfl, rfl⟩
theorem lies_own {base : Nat} {v : Value} {n : Nat} {g : Nat → Value} {w : World} (h : OwnB base 5 v n g w) (hn : 0 < n) : ∃ b cap, v = .slice (some ⟨b, 0, none⟩) n cap ∧ n ≤ cap ∧ LieAt ⟨b, 0, none⟩ n g w ∧ RowAt b n g w ∧ base ≤ b := by
  obtain ⟨b, cap, h1, h2, h3, h4, h5⟩ := h.lies hn
  exact ⟨b, cap, h1, h3, lie_of_row h5, h5, h2⟩
set_option maxRecDepth 20000 in
set_option maxHeartbeats 4000000 in
theorem xlives_core (S : Nat → BitVec 8) (z0 : BitVec 128) (ch : BitVec 128 → (Nat → BitVec 8) → Nat → BitVec 8) (w : World)
    (hnew : ∀ a X, LieAt a 32 (yv fun _ => 0#8) X → Calls Try.prog 18 #[.slice (some a) 32 32] X fun e w' => ∃ q c1 c2, e = .returned (.tuple #[.pointer (some ⟨q, 0, none⟩), .int .i64 0]) ∧ PairAt q c1 c2 10 S S w' ∧ Below X.heap.size X w' ∧ X.heap.size ≤ q ∧ X.heap.size ≤ c1 ∧ X.heap.size ≤ c2)
    (henc : ∀ q c1 c2 a X, PairAt q c1 c2 10 S S X → LieAt a 32 (yv fun _ => 0#8) X → Calls Try.prog 21 #[.pointer (some ⟨q, 0, none⟩), .int .u64 0, .slice (some a) 32 32] X fun e w' => ∃ v, e = .returned (.tuple #[v, .int .i64 0]) ∧ OwnB X.heap.size 5 v 32 (yv (fronts ch z0 fun _ => 0#8)) w' ∧ Below X.heap.size X w')
    (h0 : (fronts ch z0 (fun _ => 0#8) 0).toNat = 145) (h15 : (fronts ch z0 (fun _ => 0#8) 15).toNat = 146) (h16 : (fronts ch z0 (fun _ => 0#8) 16).toNat = 205) (h31 : (fronts ch z0 (fun _ => 0#8) 31).toNat = 46) :
    Calls Try.prog 20 #[] w fun e w' => e = .returned (.bool true) ∧ Below w.heap.size w w' := by
  generalize fronts ch z0 (fun _ => 0#8) = F at *
  replace hnew := hideit hnew
  replace henc := hideit henc
  replace h0 := hideit h0
  replace h15 := hideit h15
  replace h16 := hideit h16
  replace h31 := hideit h31
  go_enter Try.func20, Try.ntmps20
  go_upto_region 1 with (fail)
  refine wp_region_lit ?_
  refine wpList_made w Try.underlying22 info5p rfl (.const (.int .i64 32)) (.const (.int .i64 32)) rfl 32 rfl rfl (by omega) ?_
  intro w1 hO1 hX1
  obtain ⟨b1, cp1, hv1, _, hL1, _, _⟩ := lies_own hO1 (by omega)
  cases hv1
  simp only [Act.put, List.setIfInBounds_toArray, List.set_cons_zero, List.set_cons_succ]
  refine wpList_call rfl (by simp [go_sem]) ((hnew.out _ w1 hL1).mono ?_)
  rintro e w2 ⟨q, c1, c2, rfl, hP, hB2, _⟩
  refine ⟨_, rfl, ?_⟩
  have HE2 : Hid (Ext w w2) := hideit (Ext.trans hX1 hB2)
  have HP2 := hideit hP
  clear hP hB2 hL1 hO1 hX1 hnew
  simp only [Act.put, List.setIfInBounds_toArray, List.set_cons_zero, List.set_cons_succ]
  go_upto_region 4 with (fail)
  refine wp_region_lit ?_
  refine wpList_run rfl (.pointer (some ⟨q, 0, none⟩)) (by simp [go_sem]) ?_
  simp only [Act.put, List.setIfInBounds_toArray, List.set_cons_zero, List.set_cons_succ]
  refine wpList_made w2 Try.underlying22 info5p rfl (.const (.int .i64 32)) (.const (.int .i64 32)) rfl 32 rfl rfl (by omega) ?_
  intro w3 hO3 hX3
  obtain ⟨b3, cp3, hv3, _, hL3, _, _⟩ := lies_own hO3 (by omega)
  cases hv3
  simp only [Act.put, List.setIfInBounds_toArray, List.set_cons_zero, List.set_cons_succ]
  refine wpList_call rfl (by simp [go_sem]) ((henc.out q c1 c2 _ w3 (HP2.out.ext hX3) hL3).mono ?_)
  rintro e w4 ⟨v, rfl, hO, hB4⟩
  refine ⟨_, rfl, ?_⟩
  have HE4 : Hid (Ext w w4) := hideit (Ext.trans (Ext.trans HE2.out hX3) hB4)
  have HO4 := hideit hO
  clear hO hB4 hL3 hO3 hX3 henc HP2 HE2
  simp only [Act.put, List.setIfInBounds_toArray, List.set_cons_zero, List.set_cons_succ]
  go_upto_region 5 with (fail)
  refine wp_region_lit ?_
  refine wpList_run rfl (.pointer (some ⟨q, 0, none⟩)) (by simp [go_sem]) ?_
  simp only [Act.put, List.setIfInBounds_toArray, List.set_cons_zero, List.set_cons_succ]
  refine wpList_made w4 Try.underlying22 info5p rfl (.const (.int .i64 15)) (.const (.int .i64 15)) rfl 15 rfl rfl (by omega) ?_
  intro w5 hO5 hX5
  simp only [Act.put, List.setIfInBounds_toArray, List.set_cons_zero, List.set_cons_succ]
  refine wpList_call rfl (by simp [go_sem]) ((xenc_bad ⟨q, 0, none⟩ (.int .u64 0) (some ⟨w4.heap.size, 0, none⟩) 15 15 (by omega) w5).mono ?_)
  rintro e w6 ⟨rfl, rfl⟩
  refine ⟨_, rfl, ?_⟩
  have HE6 : Hid (Ext w w6) := hideit (Ext.trans HE4.out hX5)
  obtain ⟨b6, cp6, hv6, hc6, _, hR6, _⟩ := lies_own (HO4.out.ext hX5) (by omega)
  subst hv6
  have e0 : w6.cell? ⟨b6, 0, none⟩ = some (.int .u8 145) := by rw [hR6.1 0 (by omega)]; simp only [yv]; rw [h0.out]; rfl
  have e15 : w6.cell? ⟨b6, 15, none⟩ = some (.int .u8 146) := by rw [hR6.1 15 (by omega)]; simp only [yv]; rw [h15.out]; rfl
  have e16 : w6.cell? ⟨b6, 16, none⟩ = some (.int .u8 205) := by rw [hR6.1 16 (by omega)]; simp only [yv]; rw [h16.out]; rfl
  have e31 : w6.cell? ⟨b6, 31, none⟩ = some (.int .u8 46) := by rw [hR6.1 31 (by omega)]; simp only [yv]; rw [h31.out]; rfl
  clear hR6 HO4 HE4 hO5 hX5
  simp only [Act.put, List.setIfInBounds_toArray, List.set_cons_zero, List.set_cons_succ]
  go_wp2
  go_ret
  exact ⟨rfl, HE6.out⟩
theorem z32 : (fun j : Nat => (fun _ : Nat => (0#8 : BitVec 8)) (16 + j)) = fun _ => 0#8 := rfl
theorem xlives_any (w : World) : Calls Try.prog 20 #[] w fun e w' => e = .returned (.bool true) ∧ Below w.heap.size w w' := by
  have hs := sched_zero (fun _ => 0#8) (fun _ _ => rfl)
  refine xlives_core (schedK 4 zs) tz (chF (encF (schedK 4 zs) bxT twT 10)) w (fun a X h => ?_) (fun q c1 c2 a X hP h => ?_) ?_ ?_ ?_ ?_
  · have h1 := xnew4_any a 32 (fun _ => 0#8) X h (Nat.le_refl _)
    rw [hs] at h1
    exact h1
  · have h1 := xenc_any q c1 c2 10 32 32 2 (schedK 4 zs) (schedK 4 zs) (by omega) (by omega) 0#64 a (fun _ => 0#8) X hP (by omega) (by omega) (by omega) h (.inl ⟨by omega, by omega⟩)
    rw [tw0_zero] at h1
    exact h1
  · show (chF (encF (schedK 4 zs) bxT twT 10) tz (fun _ => 0#8) 0).toNat = 145
    rw [ch_z1 _ (fun _ _ => rfl) 0 (by omega)]; decide +kernel
  · show (chF (encF (schedK 4 zs) bxT twT 10) tz (fun _ => 0#8) 15).toNat = 146
    rw [ch_z1 _ (fun _ _ => rfl) 15 (by omega)]; decide +kernel
  · show (chF (encF (schedK 4 zs) bxT twT 10) (dX 135#128 tz) (fun _ => 0#8) 0).toNat = 205
    rw [ch_z2 _ (fun _ _ => rfl) 0 (by omega)]; decide +kernel
  · show (chF (encF (schedK 4 zs) bxT twT 10) (dX 135#128 tz) (fun _ => 0#8) 15).toNat = 46
    rw [ch_z2 _ (fun _ _ => rfl) 15 (by omega)]; decide +kernel
end Go.Proofs.Ytkoodgfadedeoaa
