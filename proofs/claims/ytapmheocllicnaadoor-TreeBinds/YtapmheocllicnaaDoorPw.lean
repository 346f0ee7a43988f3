/-
  Paths that came in: whether they may be; Check of any of them.
-/
import Derived.Test.YtapmheocllicnaaDoorOpL
import Derived.Test.YtapmheocllicnaaDoorPat
import Derived.Test.YtapmheocllicnaaDoorChk
namespace Go.Proofs.YtapmheocllicnaaDoor
open Go.RowKit Go.BigFrame
/-- a list of slices, of whose bytes nothing is told -/
def PartsW (v : Value) (n : Nat) (us : Nat → Value) (ls : Nat → Nat) (w : World) : Prop :=
  ((v = .slice none 0 0 ∧ n = 0) ∨ ∃ a cap, v = .slice (some a) n cap ∧ n ≤ cap ∧ LieAt a n us w) ∧ ∀ i, i < n → ∃ o c, us i = .slice o (ls i) c
theorem PartsW.form {v : Value} {n : Nat} {us : Nat → Value} {ls : Nat → Nat} {w : World} (h : PartsW v n us ls w) : ∃ ov cap, v = .slice ov n cap := by
  rcases h.1 with ⟨h, h0⟩ | ⟨a, cap, h, _⟩
  · exact ⟨none, 0, by rw [h, h0]⟩
  · exact ⟨_, cap, h⟩
theorem PartsW.ext {v : Value} {n : Nat} {us : Nat → Value} {ls : Nat → Nat} {w X : World} (h : PartsW v n us ls w) (k : Ext w X) : PartsW v n us ls X := by
  refine ⟨?_, h.2⟩
  rcases h.1 with h1 | ⟨a, cap, h1, h2, h3⟩
  · exact .inl h1
  · exact .inr ⟨a, cap, h1, h2, h3.carry k⟩
set_option maxRecDepth 20000 in
set_option maxHeartbeats 2000000 in
theorem pathw_in (n : Nat) (h1 : 1 ≤ n) (h2 : n ≤ 4096) (v : Value) (k : Nat) (us : Nat → Value) (ls : Nat → Nat) (w : World) (hP : PartsW v k us ls w) (hk : k ≤ 9223372036854775807) :
    Calls Tryd.prog 33 #[.int .i64 (n : Int), v] w fun e w' => e = .returned (.bool (decide (k = lvN n ∧ ∀ i, i < k → ls i = 512))) ∧ Ext w w' := by
  obtain ⟨ov, cap, rfl⟩ := hP.form
  have kl := hideit (levels_any n w h1 h2)
  have hN := (lvN_pos n)
  obtain ⟨N, hNN⟩ : ∃ N, N = lvN n := ⟨_, rfl⟩
  rw [← hNN] at kl hN ⊢
  obtain ⟨r, hr⟩ : ∃ r, r = decide (k = N ∧ ∀ i, i < k → ls i = 512) := ⟨_, rfl⟩
  rw [← hr]
  replace hr := hideit hr
  replace hP := hideit hP
  clear hNN h1 h2
  go_enter Tryd.func33, Tryd.ntmps33
  go_upto_region 1 with (fail)
  refine wp_region_lit ?_
  refine wpList_run rfl (.int .i64 (n : Int)) (by simp [go_sem]) ?_
  simp only [Act.put, List.setIfInBounds_toArray, List.set_cons_zero, List.set_cons_succ]
  refine wpList_call rfl (by simp [go_sem]) (kl.out.mono ?_)
  rintro e w1 ⟨v1, rfl, hO, hE⟩
  refine ⟨_, rfl, ?_⟩
  simp only [Act.put, List.setIfInBounds_toArray, List.set_cons_zero, List.set_cons_succ]
  obtain ⟨b1, c1, rfl, -, -, -, -⟩ := hO.lies (by omega)
  replace hE := hideit hE
  clear hO kl
  by_cases hkN : k = N
  · subst hkN
    have n0 : ¬ ((k : Nat) : Int) = 0 := by omega
    go_upto_region 4 with (fail)
    go_wp2
    go_loopw [19] (fun iv X => ∃ i : Nat, i ≤ k ∧ iv = .int .i64 (i : Int) ∧ (∀ j, j < i → ls j = 512) ∧ X = w1) (fun iv _ => k - (intOf iv).toNat)
    case atStart => exact ⟨0, by omega, rfl, fun j hj => absurd hj (by omega), rfl⟩
    case round =>
      obtain ⟨i, hi, rfl, hall, rfl⟩ := hrel
      replace hall := hideit hall
      by_cases hlt : i < k
      · have i0 : (0 : Int) ≤ (i : Int) := by omega
        have i1 : (i : Int) < (k : Int) := by omega
        obtain ⟨oi, ci, hui⟩ := hP.out.2 i hlt
        obtain ⟨a, rfl, hcell⟩ : ∃ a, ov = some a ∧ wr.cell? (a.add i) = some (us i) := by
          rcases hP.out.1 with ⟨h, h0⟩ | ⟨a, cap', h, _, h3⟩
          · omega
          · injection h with e1 e2 e3
            exact ⟨a, e1, (h3.carry hE.out).1 i hlt⟩
        rw [hui] at hcell
        clear hui
        by_cases h5 : ls i = 512
        · have i5 : ((ls i : Nat) : Int) = 512 := by omega
          replace h5 := hideit h5
          go_wp2
          exact ⟨⟨i + 1, by omega, by go_num, fun j hj => by
            rcases (by omega : j < i ∨ j = i) with h | rfl
            · exact hall.out j h
            · exact h5.out, by first | rfl | trivial⟩, by simp [intOf]; omega⟩
        · have i5 : ¬ ((ls i : Nat) : Int) = 512 := by omega
          replace h5 := hideit h5
          go_wp2
          go_ret
          refine ⟨ret_bool ?_, hE.out⟩
          rw [hr.out]
          symm
          exact decide_eq_false fun h => h5.out (h.2 i hlt)
      · obtain rfl : i = k := by omega
        have i1 : ¬ (i : Int) < (i : Int) := by omega
        go_wp2
        go_ret
        refine ⟨ret_bool ?_, hE.out⟩
        rw [hr.out]
        symm
        exact decide_eq_true ⟨by first | rfl | trivial, hall.out⟩
  · have n0 : ¬ ((N : Nat) : Int) = 0 := by omega
    have n1 : (((k : Nat) : Int) != (N : Int)) = true := by simp; omega
    have n2 : (((N : Nat) : Int) == 0) = false := by simp; omega
    replace hkN := hideit hkN
    go_wp2
    go_ret
    refine ⟨ret_bool ?_, hE.out⟩
    rw [hr.out]
    symm
    exact decide_eq_false fun h => hkN.out h.1
theorem pathw_any (n : Int) (v : Value) (k : Nat) (us : Nat → Value) (ls : Nat → Nat) (w : World) (hP : PartsW v k us ls w) (hk : k ≤ 9223372036854775807) :
    Calls Tryd.prog 33 #[.int .i64 n, v] w fun e w' => e = .returned (.bool (isP n k ls)) ∧ Ext w w' := by
  by_cases hn : n < 1 ∨ 4096 < n
  · refine (path_out n hn v w).mono fun e w' h => ⟨?_, h.2⟩
    rw [h.1]
    refine ret_bool ?_
    symm
    exact decide_eq_false fun h => by omega
  · obtain ⟨m, rfl⟩ : ∃ m : Nat, n = (m : Int) := ⟨n.toNat, by omega⟩
    refine (pathw_in m (by omega) (by omega) v k us ls w hP hk).mono fun e w' h => ⟨?_, h.2⟩
    rw [h.1]
    refine ret_bool ?_
    unfold isP
    rw [Int.toNat_natCast]
    refine decide_eq_decide.2 ⟨fun h => ⟨by omega, by omega, h.1, h.2⟩, fun h => ⟨h.2.2.1, h.2.2.2⟩⟩
/-- bytes in memory, if there are any -/
def PV (u : Value) (l : Nat) (b : Nat → BitVec 8) (w : World) : Prop := (u = .slice none 0 0 ∧ l = 0) ∨ ∃ a cap, u = .slice (some a) l cap ∧ l ≤ cap ∧ ∀ j, j < l → w.cell? (a.add j) = some (yv b j)
theorem PV.bv {u : Value} {l : Nat} {b : Nat → BitVec 8} {w : World} (h : PV u l b w) (hl : 0 < l) : BV u l b w := by
  rcases h with ⟨_, h⟩ | ⟨a, cap, h1, h2, h3⟩
  · omega
  · refine .inr ⟨a, cap, h1, h2, h3, ?_⟩
    have := World.block_lt_of_cell? w _ (h3 0 hl)
    rwa [add_block] at this
/-- a path that came in -/
structure WA (v : Value) (k : Nat) (us : Nat → Value) (ls : Nat → Nat) (bs : Nat → Nat → BitVec 8) (w : World) : Prop where
  list : (v = .slice none 0 0 ∧ k = 0) ∨ ∃ a cap, v = .slice (some a) k cap ∧ k ≤ cap ∧ LieAt a k us w
  each : ∀ i, i < k → PV (us i) (ls i) (bs i) w
  most : k ≤ 9223372036854775807
theorem WA.w {v : Value} {k : Nat} {us : Nat → Value} {ls : Nat → Nat} {bs : Nat → Nat → BitVec 8} {w : World} (h : WA v k us ls bs w) : PartsW v k us ls w :=
  ⟨h.list, fun i hi => by
    rcases h.each i hi with ⟨h1, h2⟩ | ⟨a, cap, h1, _⟩
    · exact ⟨none, 0, by rw [h1, h2]⟩
    · exact ⟨some a, cap, h1⟩⟩
theorem WA.parts {v : Value} {k : Nat} {us : Nat → Value} {ls : Nat → Nat} {bs : Nat → Nat → BitVec 8} {w : World} (h : WA v k us ls bs w) (hl : ∀ i, i < k → ls i = 512) : Parts v k us ls bs w :=
  ⟨h.list, fun i hi => (h.each i hi).bv (by rw [hl i hi]; decide)⟩
theorem PV.ext {u : Value} {l : Nat} {b : Nat → BitVec 8} {w X : World} (h : PV u l b w) (k : Ext w X) : PV u l b X := by
  rcases h with h | ⟨a, cap, h1, h2, h3⟩
  · exact .inl h
  · exact .inr ⟨a, cap, h1, h2, fun j hj => (Below.cell k (p := a.add j) (World.block_lt_of_cell? w _ (h3 j hj))).trans (h3 j hj)⟩
theorem WA.ext {v : Value} {k : Nat} {us : Nat → Value} {ls : Nat → Nat} {bs : Nat → Nat → BitVec 8} {w X : World} (h : WA v k us ls bs w) (e : Ext w X) : WA v k us ls bs X :=
  ⟨(h.w.ext e).1, fun i hi => (h.each i hi).ext e, h.most⟩
open Go.ChangeShapes Go.WideShapes Go.ChangeAt in
set_option maxRecDepth 100000 in
theorem open_piece {H : Type} {enc : TypeId × Value → H} {W : World} {base : Nat} {spare : Nat → Bool} {held : Bool} {n : Nat} {cs : List Value} {x : DataW H × List MemPlace} (h : DataW.trod enc Tryd.prog W base spare held n 23 cs = some x) :
    ∃ u l b, cs = [u] ∧ PV u l b W := by
  rcases open_ints Tryd.underlying23 Tryd.underlying5 (by kernel_rfl) h with ⟨hcs, _⟩ | ⟨a, len, cap, zs, hcs, _, hl, _, hz, hd, hcell, hwz⟩
  · exact ⟨.slice none 0 0, 0, fun _ => 0#8, hcs, .inl ⟨rfl, rfl⟩⟩
  · have hlen : len ≤ zs.length := by rw [hz]; split <;> omega
    have hall : ∀ i, i < len → ∃ c : BitVec 8, zs.getD i 0 = (c.toNat : Int) := fun i hi => by
      refine of_wf8 (hwz _ ?_)
      rw [List.getD_eq_getElem?_getD, List.getElem?_eq_getElem (by omega), Option.getD_some]
      exact List.getElem_mem _
    refine ⟨.slice (some a) len cap, len, fun i => if h : i < len then (hall i h).choose else 0#8, hcs, .inr ⟨a, cap, rfl, hl, fun j hj => ?_⟩⟩
    rw [hcell j (by omega)]
    simp only [yv, dif_pos hj]
    rw [← (hall j hj).choose_spec]
def WArg (v : Value) (W : World) : Prop := ∃ k us ls bs, WA v k us ls bs W
open Go.ChangeShapes Go.WideShapes Go.ChangeAt in
set_option maxRecDepth 100000 in
theorem warg {H : Type} {enc : TypeId × Value → H} {W : World} {r : Reach} {b0 base : Nat} {spare : Nat → Bool} {held : Bool} {v : Value} {d : DataW H} {p : List MemPlace}
    (hv : Value.okWide Tryd.prog W r b0 33 v) (h : DataW.Trod enc Tryd.prog W base spare held 33 v d p) : WArg v W := by
  obtain ⟨a, len, cap, rfl⟩ := okWide_slice Tryd.underlying33 hv
  obtain ⟨fuel, hf⟩ := h
  have hC : Tryd.prog.cellsOf 23 = 1 := by kernel_rfl
  rcases Go.Deep.open_slice Tryd.underlying33 hf with ⟨hcs, _⟩ | ⟨x, l, c, m, n, D, Pl, hcs, _, hl, hm, hmm, _, hx⟩
  · simp [Value.cells] at hcs
    obtain ⟨rfl, rfl, rfl⟩ := hcs
    exact ⟨0, fun _ => undef, fun _ => 0, fun _ _ => 0#8, .inl ⟨rfl, rfl⟩, fun i hi => absurd hi (by omega), by omega⟩
  · simp [Value.cells] at hcs
    obtain ⟨rfl, rfl, rfl⟩ := hcs
    have hlt : x.block < W.heap.size := by
      simp only [Value.okWide, Tryd.underlying33, Cell.okWide, Cell.ok] at hv
      exact has_lt hv.2.2
    have hlm : len ≤ m := by rw [hmm]; split <;> omega
    have each : ∀ i, i < len → ∃ q : Value × Nat × (Nat → BitVec 8), W.cell? (x.add i) = some q.1 ∧ PV q.1 q.2.1 q.2.2 W := by
      intro i hi
      obtain ⟨cs', h1, h2⟩ := hx i (by omega)
      rw [hC] at h1
      obtain ⟨_, hlen, hcell⟩ := World.cells?_some h1
      obtain ⟨u, l', b, rfl, hp⟩ := open_piece h2
      refine ⟨(u, l', b), ?_, hp⟩
      have e := hcell 0 (by omega)
      rw [add_add] at e
      simpa using e
    obtain ⟨q, hq⟩ := Go.Deep.choose_lt each
    exact ⟨len, fun i => (q i).1, fun i => (q i).2.1, fun i => (q i).2.2, .inr ⟨x, cap, rfl, hl, fun j hj => (hq j hj).1, hlt⟩, fun i hi => (hq i hi).2, by unfold maxLen at hm; omega⟩
set_option maxRecDepth 20000 in
set_option maxHeartbeats 2000000 in
theorem check_path (n i : Int) (k : Nat) (leaf root : Nat → BitVec 8) (pv : Value) (us : Nat → Value) (ls : Nat → Nat) (w : World) (hP : PartsW pv k us ls w) (hk : k ≤ 9223372036854775807) (hno : isP n k ls = false) :
    Calls Tryd.prog 21 #[.int .i64 n, .int .i64 i, .agg (row 32 (yv leaf)).toArray, pv, .agg (row 32 (yv root)).toArray] w fun e w' => e = .returned (.int .i64 1) ∧ Ext w w' := by
  obtain ⟨ov, cap, rfl⟩ := hP.form
  obtain ⟨M1, M2, M3, M4, M5, M6⟩ := chk_mem w leaf root (.slice ov k cap)
  have kp := pathw_any n (.slice ov k cap) k us ls _ (hP.ext M5) hk
  rw [hno] at kp
  replace kp := hideit kp
  have e2 := M2.1 0 (by decide)
  replace M4 := hideit M4
  replace M5 := hideit M5
  clear M1 M2 M3 hP hno
  refine (callsIn_wide (n := 4)).1 (callsIn_of_wp_marks Tryd.func21 rfl trivial ?_ rfl)
  refine wpIn_wide.2 ?_
  simp only [Tryd.ntmps21, List.size_toArray, List.length_cons, List.length_nil, Nat.reduceAdd, Nat.reduceSub, Array.replicate_succ, Array.replicate_zero, List.push_toArray, List.append_toArray, List.nil_append, List.cons_append]
  go_upto_region 1 with (fail)
  generalize (((w.alloc (.cells (row 32 (yv leaf)).toArray 25)).alloc (.cells #[.slice ov k cap] 33)).alloc (.cells (row 32 (yv root)).toArray 25)).alloc (.cells #[.int .i64 0] 26) = w4 at *
  go_upto_region 2 with (go_at_call 33; refine kp.out.mono ?_; rintro e w5 ⟨rfl, hX5⟩; have N4 := hideit (M4.out.carry hX5); have N5 := hideit (Ext.trans M5.out hX5); clear hX5 M4 M5 kp e2)
  have e1 := N4.out.1 0 (by decide)
  have e2 := N4.out.2.1 0 (by decide)
  have hR9 := hideit ((N4.out.set 0 (.int .i64 1)).congr (g' := fun _ => .int .i64 1) fun t ht => by rw [if_pos (by omega)])
  have hE9 := hideit (Below.setCell (p := ⟨w.heap.size + 3, 0, none⟩) N5.out (by show w.heap.size ≤ w.heap.size + 3; omega) (.int .i64 1))
  refine wp_region_lit ?_
  refine wpList_st rfl (w5.setCell ⟨w.heap.size + 3, 0, none⟩ (.int .i64 1)) (by simp [go_sem, e1, e2]) ?_
  generalize w5.setCell ⟨w.heap.size + 3, 0, none⟩ (.int .i64 1) = w10 at *
  clear e1 e2 N4 N5
  simp only [Act.put]
  go_wp2
  have hc := hR9.out.1 0 (by decide)
  exact postM_ret rfl (v := .int .i64 1) (by simp [results, Tryd.results21, go_sem, hc]) ⟨rfl, hE9.out⟩
set_option maxRecDepth 20000 in
set_option maxHeartbeats 2000000 in
theorem check_place (n i : Int) (k : Nat) (leaf root : Nat → BitVec 8) (pv : Value) (us : Nat → Value) (ls : Nat → Nat) (w : World) (hP : PartsW pv k us ls w) (hk : k ≤ 9223372036854775807) (hyes : isP n k ls = true) (hi : i < 0 ∨ n ≤ i) :
    Calls Tryd.prog 21 #[.int .i64 n, .int .i64 i, .agg (row 32 (yv leaf)).toArray, pv, .agg (row 32 (yv root)).toArray] w fun e w' => e = .returned (.int .i64 1) ∧ Ext w w' := by
  obtain ⟨ov, cap, rfl⟩ := hP.form
  obtain ⟨M1, M2, M3, M4, M5, M6⟩ := chk_mem w leaf root (.slice ov k cap)
  have kp := pathw_any n (.slice ov k cap) k us ls _ (hP.ext M5) hk
  rw [hyes] at kp
  replace kp := hideit kp
  have e2 := M2.1 0 (by decide)
  replace M4 := hideit M4
  replace M5 := hideit M5
  clear M1 M2 M3 hP hyes
  refine (callsIn_wide (n := 4)).1 (callsIn_of_wp_marks Tryd.func21 rfl trivial ?_ rfl)
  refine wpIn_wide.2 ?_
  simp only [Tryd.ntmps21, List.size_toArray, List.length_cons, List.length_nil, Nat.reduceAdd, Nat.reduceSub, Array.replicate_succ, Array.replicate_zero, List.push_toArray, List.append_toArray, List.nil_append, List.cons_append]
  go_upto_region 1 with (fail)
  generalize (((w.alloc (.cells (row 32 (yv leaf)).toArray 25)).alloc (.cells #[.slice ov k cap] 33)).alloc (.cells (row 32 (yv root)).toArray 25)).alloc (.cells #[.int .i64 0] 26) = w4 at *
  by_cases i0 : i < 0
  · clear hi
    go_upto_region 2 with (go_at_call 33; refine kp.out.mono ?_; rintro e w5 ⟨rfl, hX5⟩; have N4 := hideit (M4.out.carry hX5); have N5 := hideit (Ext.trans M5.out hX5); clear hX5 M4 M5 kp e2)
    have e1 := N4.out.1 0 (by decide)
    have e2 := N4.out.2.1 0 (by decide)
    have hR9 := hideit ((N4.out.set 0 (.int .i64 1)).congr (g' := fun _ => .int .i64 1) fun t ht => by rw [if_pos (by omega)])
    have hE9 := hideit (Below.setCell (p := ⟨w.heap.size + 3, 0, none⟩) N5.out (by show w.heap.size ≤ w.heap.size + 3; omega) (.int .i64 1))
    refine wp_region_lit ?_
    refine wpList_st rfl (w5.setCell ⟨w.heap.size + 3, 0, none⟩ (.int .i64 1)) (by simp [go_sem, e1, e2]) ?_
    generalize w5.setCell ⟨w.heap.size + 3, 0, none⟩ (.int .i64 1) = w10 at *
    clear e1 e2 N4 N5
    simp only [Act.put]
    go_wp2
    have hc := hR9.out.1 0 (by decide)
    exact postM_ret rfl (v := .int .i64 1) (by simp [results, Tryd.results21, go_sem, hc]) ⟨rfl, hE9.out⟩
  · have i1 : n ≤ i := by omega
    clear hi
    go_upto_region 2 with (go_at_call 33; refine kp.out.mono ?_; rintro e w5 ⟨rfl, hX5⟩; have N4 := hideit (M4.out.carry hX5); have N5 := hideit (Ext.trans M5.out hX5); clear hX5 M4 M5 kp e2)
    have e1 := N4.out.1 0 (by decide)
    have e2 := N4.out.2.1 0 (by decide)
    have hR9 := hideit ((N4.out.set 0 (.int .i64 1)).congr (g' := fun _ => .int .i64 1) fun t ht => by rw [if_pos (by omega)])
    have hE9 := hideit (Below.setCell (p := ⟨w.heap.size + 3, 0, none⟩) N5.out (by show w.heap.size ≤ w.heap.size + 3; omega) (.int .i64 1))
    refine wp_region_lit ?_
    refine wpList_st rfl (w5.setCell ⟨w.heap.size + 3, 0, none⟩ (.int .i64 1)) (by simp [go_sem, e1, e2]) ?_
    generalize w5.setCell ⟨w.heap.size + 3, 0, none⟩ (.int .i64 1) = w10 at *
    clear e1 e2 N4 N5
    simp only [Act.put]
    go_wp2
    have hc := hR9.out.1 0 (by decide)
    exact postM_ret rfl (v := .int .i64 1) (by simp [results, Tryd.results21, go_sem, hc]) ⟨rfl, hE9.out⟩
/-- when Check tells OK -/
structure Good (n i : Int) (k : Nat) (ls : Nat → Nat) (leaf : Nat → BitVec 8) (bs : Nat → Nat → BitVec 8) (root : Nat → BitVec 8) (m x : Nat) : Prop where
  n : n = (m : Int)
  i : i = (x : Int)
  one : 1 ≤ m
  most : m ≤ 4096
  at_ : x < m
  lvls : k = lvN m
  len : ∀ j, j < k → ls j = 512
  up : (chL leaf x bs (List.range k)).2
  top : ∀ t, t < 32 → rootF m (chL leaf x bs (List.range k)).1 t = root t
/-- what Check tells, in the document's order -/
def ckE (n i : Int) (k : Nat) (ls : Nat → Nat) (leaf : Nat → BitVec 8) (bs : Nat → Nat → BitVec 8) (root : Nat → BitVec 8) (z : Int) : Prop :=
  (z = 1 ∧ ¬ (isP n k ls = true ∧ 0 ≤ i ∧ i < n)) ∨ ((isP n k ls = true ∧ 0 ≤ i ∧ i < n) ∧ (z = 0 ∧ (∃ m x, Good n i k ls leaf bs root m x) ∨ z = 160 ∧ ¬ ∃ m x, Good n i k ls leaf bs root m x))
theorem check_all (n i : Int) (k : Nat) (leaf root : Nat → BitVec 8) (pv : Value) (us : Nat → Value) (ls : Nat → Nat) (bs : Nat → Nat → BitVec 8) (w : World) (hP : WA pv k us ls bs w) (hC : TabC w) :
    Calls Tryd.prog 21 #[.int .i64 n, .int .i64 i, .agg (row 32 (yv leaf)).toArray, pv, .agg (row 32 (yv root)).toArray] w fun e w' => ∃ z, e = .returned (.int .i64 z) ∧ Ext w w' ∧ ckE n i k ls leaf bs root z := by
  cases hp : isP n k ls with
  | false => exact (check_path n i k leaf root pv us ls w hP.w hP.most hp).mono fun e w' h => ⟨1, h.1, h.2, .inl ⟨rfl, fun h => by rw [hp] at h; cases h.1⟩⟩
  | true =>
    by_cases hi : i < 0 ∨ n ≤ i
    · exact (check_place n i k leaf root pv us ls w hP.w hP.most hp hi).mono fun e w' h => ⟨1, h.1, h.2, .inl ⟨rfl, fun h => by omega⟩⟩
    · obtain ⟨m, rfl, h1, h2, h3, h4⟩ := isP_spec hp
      obtain ⟨x, rfl⟩ : ∃ x : Nat, i = (x : Int) := ⟨i.toNat, by omega⟩
      have hx : x < m := by omega
      refine (check_go m x k h1 h2 hx leaf root pv us ls bs w (hP.parts h4) hC h3 h4).mono fun e w' ⟨z, he, hE, hz⟩ => ⟨z, he, hE, .inr ⟨⟨hp, by omega, by omega⟩, ?_⟩⟩
      rcases hz with ⟨hz, a, b⟩ | ⟨hz, hno⟩
      · exact .inl ⟨hz, m, x, rfl, rfl, h1, h2, hx, h3, h4, a, b⟩
      · refine .inr ⟨hz, fun ⟨m', x', g⟩ => hno ?_⟩
        obtain rfl : m = m' := Int.ofNat.inj g.n
        obtain rfl : x = x' := Int.ofNat.inj g.i
        exact ⟨g.up, g.top⟩
end Go.Proofs.YtapmheocllicnaaDoor
