/-
  OpL, Pw, RNd, RLv, RRt, RJn, RCk.
-/
import Derived.Test.YtapmheocllicnaaDoorNds
import Derived.Test.YtapmheocllicnaaDoorOpenB
import Derived.Deep.Slices
import Derived.Test.YtapmheocllicnaaDoorPatM
import Derived.Test.YtapmheocllicnaaDoorChk
import Derived.Test.YtapmheocllicnaaDoorLvl
import Derived.Test.YtapmheocllicnaaDoorGrowV
import Derived.Test.YtapmheocllicnaaDoorSst
namespace Go.Proofs.YtapmheocllicnaaDoor
open Go.ChangeShapes Go.WideShapes Go.ChangeAt Go.RowKit
set_option maxRecDepth 100000 in
theorem open_dig {H : Type} {enc : TypeId × Value → H} {W : World} {base : Nat} {spare : Nat → Bool} {held : Bool} {n : Nat} {cs : List Value} {x : DataW H × List MemPlace} (h : DataW.trod enc Tryd.prog W base spare held n 25 cs = some x) :
    ∃ f : Nat → BitVec 8, ∀ i, i < 32 → cs[i]? = some (yv f i) := by
  have hc5 : Tryd.prog.cellsOf 5 = 1 := by kernel_rfl
  obtain ⟨xs, m, _, _, _, hxl, hx⟩ := DataW.trod_array Tryd.underlying25 h
  have hall : ∀ i, i < 32 → ∃ b : BitVec 8, cs[i]? = some (.int .u8 (b.toNat : Int)) := by
    intro i hi
    have h1 := hx i hi
    rw [List.getElem?_eq_getElem (by omega)] at h1
    obtain ⟨n, e0, _, w0⟩ := DataW.trod_int Tryd.underlying5 h1
    obtain ⟨b, rfl⟩ := of_wf8 w0
    refine ⟨b, ?_⟩
    rw [hc5] at e0
    have h2 : (List.take 1 (List.drop (i * 1) cs))[0]? = some (.int .u8 (b.toNat : Int)) := by rw [e0]; rfl
    simpa [List.getElem?_take, List.getElem?_drop] using h2
  refine ⟨fun i => if h : i < 32 then (hall i h).choose else 0#8, fun i hi => ?_⟩
  rw [(hall i hi).choose_spec]
  simp only [yv, dif_pos hi]
/-- a list of digests that came in -/
def LArg (v : Value) (W : World) : Prop := ∃ n d, LV v n d W ∧ n ≤ 9223372036854775807
set_option maxRecDepth 100000 in
theorem larg {H : Type} {enc : TypeId × Value → H} {W : World} {r : Reach} {b0 base : Nat} {spare : Nat → Bool} {held : Bool} {v : Value} {d : DataW H} {p : List MemPlace}
    (hv : Value.okWide Tryd.prog W r b0 22 v) (h : DataW.Trod enc Tryd.prog W base spare held 22 v d p) : LArg v W := by
  obtain ⟨a, len, cap, rfl⟩ := okWide_slice Tryd.underlying22 hv
  obtain ⟨fuel, hf⟩ := h
  have hC : Tryd.prog.cellsOf 25 = 32 := by kernel_rfl
  rcases Go.Deep.open_slice Tryd.underlying22 hf with ⟨hcs, _⟩ | ⟨x, l, c, m, n, D, Pl, hcs, _, hl, hm, hmm, _, hx⟩
  · simp [Value.cells] at hcs
    obtain ⟨rfl, rfl, rfl⟩ := hcs
    exact ⟨0, fun _ _ => 0#8, .inl ⟨rfl, rfl⟩, by omega⟩
  · simp [Value.cells] at hcs
    obtain ⟨rfl, rfl, rfl⟩ := hcs
    have hlt : x.block < W.heap.size := by
      simp only [Value.okWide, Tryd.underlying22, Cell.okWide, Cell.ok] at hv
      exact has_lt hv.2.2
    have hlm : len ≤ m := by rw [hmm]; split <;> omega
    have each : ∀ i, i < len → ∃ f : Nat → BitVec 8, ∀ j, j < 32 → W.cell? (x.add (i * 32 + j)) = some (yv f j) := by
      intro i hi
      obtain ⟨cs', h1, h2⟩ := hx i (by omega)
      rw [hC] at h1
      obtain ⟨_, hlen, hcell⟩ := World.cells?_some h1
      obtain ⟨f, hf'⟩ := open_dig h2
      refine ⟨f, fun j hj => ?_⟩
      have e := hcell j (by omega)
      rw [add_add] at e
      rw [e]
      exact hf' j hj
    obtain ⟨q, hq⟩ := Go.Deep.choose_lt each
    refine ⟨len, q, .inr ⟨x, cap, rfl, hl, fun j hj => ?_, hlt⟩, by unfold maxLen at hm; omega⟩
    have e := hq (j / 32) (by omega) (j % 32) (Nat.mod_lt _ (by decide))
    rw [show j / 32 * 32 + j % 32 = j by omega] at e
    exact e
end Go.Proofs.YtapmheocllicnaaDoor

namespace Go.Proofs.YtapmheocllicnaaDoor
open Go.RowKit Go.BigFrame
/-- a list of slices, of whose bytes nothing is told -/
def PartsW (v : Value) (n : Nat) (us : Nat → Value) (ls : Nat → Nat) (w : World) : Prop :=
  ((v = .slice none 0 0 ∧ n = 0) ∨ ∃ a cap, v = .slice (some a) n cap ∧ n ≤ cap ∧ LieAt a n us w) ∧ ∀ i, i < n → ∃ o c, us i = .slice o (ls i) c
theorem PartsW.form {v : Value} {n : Nat} {us : Nat → Value} {ls : Nat → Nat} {w : World} (h : PartsW v n us ls w) : ∃ ov cap, v = .slice ov n cap := by
  rcases h.1 with ⟨h, h0⟩ | ⟨a, cap, h, _⟩
  · exact ⟨none, 0, by rw [h, h0]⟩
  · exact ⟨_, cap, h⟩
theorem PartsW.ext {v : Value} {n : Nat} {us : Nat → Value} {ls : Nat → Nat} {w X : World} (h : PartsW v n us ls w) (k : Ext w X) : PartsW v n us ls X := by
  refine ⟨?_, h.2⟩
  rcases h.1 with h1 | ⟨a, cap, h1, h2, h3⟩
  · exact .inl h1
  · exact .inr ⟨a, cap, h1, h2, h3.carry k⟩
set_option maxRecDepth 20000 in
set_option maxHeartbeats 2000000 in
theorem pathw_in (n : Nat) (h1 : 1 ≤ n) (h2 : n ≤ 4096) (v : Value) (k : Nat) (us : Nat → Value) (ls : Nat → Nat) (w : World) (hP : PartsW v k us ls w) (hk : k ≤ 9223372036854775807) :
    Calls Tryd.prog 33 #[.int .i64 (n : Int), v] w fun e w' => e = .returned (.bool (decide (k = lvN n ∧ ∀ i, i < k → ls i = 512))) ∧ Ext w w' := by
  obtain ⟨ov, cap, rfl⟩ := hP.form
  have kl := hideit (levels_any n w h1 h2)
  have hN := (lvN_pos n)
  obtain ⟨N, hNN⟩ : ∃ N, N = lvN n := ⟨_, rfl⟩
  rw [← hNN] at kl hN ⊢
  obtain ⟨r, hr⟩ : ∃ r, r = decide (k = N ∧ ∀ i, i < k → ls i = 512) := ⟨_, rfl⟩
  rw [← hr]
  replace hr := hideit hr
  replace hP := hideit hP
  clear hNN h1 h2
  go_enter Tryd.func33, Tryd.ntmps33
  go_upto_region 1 with (fail)
  refine wp_region_lit ?_
  refine wpList_run rfl (.int .i64 (n : Int)) (by simp [go_sem]) ?_
  simp only [Act.put, List.setIfInBounds_toArray, List.set_cons_zero, List.set_cons_succ]
  refine wpList_call rfl (by simp [go_sem]) (kl.out.mono ?_)
  rintro e w1 ⟨v1, rfl, hO, hE⟩
  refine ⟨_, rfl, ?_⟩
  simp only [Act.put, List.setIfInBounds_toArray, List.set_cons_zero, List.set_cons_succ]
  obtain ⟨b1, c1, rfl, -, -, -, -⟩ := hO.lies (by omega)
  replace hE := hideit hE
  clear hO kl
  by_cases hkN : k = N
  · subst hkN
    have n0 : ¬ ((k : Nat) : Int) = 0 := by omega
    go_upto_region 4 with (fail)
    go_wp2
    go_loopw [19] (fun iv X => ∃ i : Nat, i ≤ k ∧ iv = .int .i64 (i : Int) ∧ (∀ j, j < i → ls j = 512) ∧ X = w1) (fun iv _ => k - (intOf iv).toNat)
    case atStart => exact ⟨0, by omega, rfl, fun j hj => absurd hj (by omega), rfl⟩
    case round =>
      obtain ⟨i, hi, rfl, hall, rfl⟩ := hrel
      replace hall := hideit hall
      by_cases hlt : i < k
      · have i0 : (0 : Int) ≤ (i : Int) := by omega
        have i1 : (i : Int) < (k : Int) := by omega
        obtain ⟨oi, ci, hui⟩ := hP.out.2 i hlt
        obtain ⟨a, rfl, hcell⟩ : ∃ a, ov = some a ∧ wr.cell? (a.add i) = some (us i) := by
          rcases hP.out.1 with ⟨h, h0⟩ | ⟨a, cap', h, _, h3⟩
          · omega
          · injection h with e1 e2 e3
            exact ⟨a, e1, (h3.carry hE.out).1 i hlt⟩
        rw [hui] at hcell
        clear hui
        by_cases h5 : ls i = 512
        · have i5 : ((ls i : Nat) : Int) = 512 := by omega
          replace h5 := hideit h5
          go_wp2
          exact ⟨⟨i + 1, by omega, by go_num, fun j hj => by
            rcases (by omega : j < i ∨ j = i) with h | rfl
            · exact hall.out j h
            · exact h5.out, by first | rfl | trivial⟩, by simp [intOf]; omega⟩
        · have i5 : ¬ ((ls i : Nat) : Int) = 512 := by omega
          replace h5 := hideit h5
          go_wp2
          go_ret
          refine ⟨ret_bool ?_, hE.out⟩
          rw [hr.out]
          symm
          exact decide_eq_false fun h => h5.out (h.2 i hlt)
      · obtain rfl : i = k := by omega
        have i1 : ¬ (i : Int) < (i : Int) := by omega
        go_wp2
        go_ret
        refine ⟨ret_bool ?_, hE.out⟩
        rw [hr.out]
        symm
        exact decide_eq_true ⟨by first | rfl | trivial, hall.out⟩
  · have n0 : ¬ ((N : Nat) : Int) = 0 := by omega
    have n1 : (((k : Nat) : Int) != (N : Int)) = true := by simp; omega
    have n2 : (((N : Nat) : Int) == 0) = false := by simp; omega
    replace hkN := hideit hkN
    go_wp2
    go_ret
    refine ⟨ret_bool ?_, hE.out⟩
    rw [hr.out]
    symm
    exact decide_eq_false fun h => hkN.out h.1
theorem pathw_any (n : Int) (v : Value) (k : Nat) (us : Nat → Value) (ls : Nat → Nat) (w : World) (hP : PartsW v k us ls w) (hk : k ≤ 9223372036854775807) :
    Calls Tryd.prog 33 #[.int .i64 n, v] w fun e w' => e = .returned (.bool (isP n k ls)) ∧ Ext w w' := by
  by_cases hn : n < 1 ∨ 4096 < n
  · refine (path_out n hn v w).mono fun e w' h => ⟨?_, h.2⟩
    rw [h.1]
    refine ret_bool ?_
    symm
    exact decide_eq_false fun h => by omega
  · obtain ⟨m, rfl⟩ : ∃ m : Nat, n = (m : Int) := ⟨n.toNat, by omega⟩
    refine (pathw_in m (by omega) (by omega) v k us ls w hP hk).mono fun e w' h => ⟨?_, h.2⟩
    rw [h.1]
    refine ret_bool ?_
    unfold isP
    rw [Int.toNat_natCast]
    refine decide_eq_decide.2 ⟨fun h => ⟨by omega, by omega, h.1, h.2⟩, fun h => ⟨h.2.2.1, h.2.2.2⟩⟩
/-- bytes in memory, if there are any -/
def PV (u : Value) (l : Nat) (b : Nat → BitVec 8) (w : World) : Prop := (u = .slice none 0 0 ∧ l = 0) ∨ ∃ a cap, u = .slice (some a) l cap ∧ l ≤ cap ∧ ∀ j, j < l → w.cell? (a.add j) = some (yv b j)
theorem PV.bv {u : Value} {l : Nat} {b : Nat → BitVec 8} {w : World} (h : PV u l b w) (hl : 0 < l) : BV u l b w := by
  rcases h with ⟨_, h⟩ | ⟨a, cap, h1, h2, h3⟩
  · omega
  · refine .inr ⟨a, cap, h1, h2, h3, ?_⟩
    have := World.block_lt_of_cell? w _ (h3 0 hl)
    rwa [add_block] at this
/-- a path that came in -/
structure WA (v : Value) (k : Nat) (us : Nat → Value) (ls : Nat → Nat) (bs : Nat → Nat → BitVec 8) (w : World) : Prop where
  list : (v = .slice none 0 0 ∧ k = 0) ∨ ∃ a cap, v = .slice (some a) k cap ∧ k ≤ cap ∧ LieAt a k us w
  each : ∀ i, i < k → PV (us i) (ls i) (bs i) w
  most : k ≤ 9223372036854775807
theorem WA.w {v : Value} {k : Nat} {us : Nat → Value} {ls : Nat → Nat} {bs : Nat → Nat → BitVec 8} {w : World} (h : WA v k us ls bs w) : PartsW v k us ls w :=
  ⟨h.list, fun i hi => by
    rcases h.each i hi with ⟨h1, h2⟩ | ⟨a, cap, h1, _⟩
    · exact ⟨none, 0, by rw [h1, h2]⟩
    · exact ⟨some a, cap, h1⟩⟩
theorem WA.parts {v : Value} {k : Nat} {us : Nat → Value} {ls : Nat → Nat} {bs : Nat → Nat → BitVec 8} {w : World} (h : WA v k us ls bs w) (hl : ∀ i, i < k → ls i = 512) : Parts v k us ls bs w :=
  ⟨h.list, fun i hi => (h.each i hi).bv (by rw [hl i hi]; decide)⟩
theorem PV.ext {u : Value} {l : Nat} {b : Nat → BitVec 8} {w X : World} (h : PV u l b w) (k : Ext w X) : PV u l b X := by
  rcases h with h | ⟨a, cap, h1, h2, h3⟩
  · exact .inl h
  · exact .inr ⟨a, cap, h1, h2, fun j hj => (Below.cell k (p := a.add j) (World.block_lt_of_cell? w _ (h3 j hj))).trans (h3 j hj)⟩
theorem WA.ext {v : Value} {k : Nat} {us : Nat → Value} {ls : Nat → Nat} {bs : Nat → Nat → BitVec 8} {w X : World} (h : WA v k us ls bs w) (e : Ext w X) : WA v k us ls bs X :=
  ⟨(h.w.ext e).1, fun i hi => (h.each i hi).ext e, h.most⟩
open Go.ChangeShapes Go.WideShapes Go.ChangeAt in
set_option maxRecDepth 100000 in
theorem open_piece {H : Type} {enc : TypeId × Value → H} {W : World} {base : Nat} {spare : Nat → Bool} {held : Bool} {n : Nat} {cs : List Value} {x : DataW H × List MemPlace} (h : DataW.trod enc Tryd.prog W base spare held n 23 cs = some x) :
    ∃ u l b, cs = [u] ∧ PV u l b W := by
  rcases open_ints Tryd.underlying23 Tryd.underlying5 (by kernel_rfl) h with ⟨hcs, _⟩ | ⟨a, len, cap, zs, hcs, _, hl, _, hz, hd, hcell, hwz⟩
  · exact ⟨.slice none 0 0, 0, fun _ => 0#8, hcs, .inl ⟨rfl, rfl⟩⟩
  · have hlen : len ≤ zs.length := by rw [hz]; split <;> omega
    have hall : ∀ i, i < len → ∃ c : BitVec 8, zs.getD i 0 = (c.toNat : Int) := fun i hi => by
      refine of_wf8 (hwz _ ?_)
      rw [List.getD_eq_getElem?_getD, List.getElem?_eq_getElem (by omega), Option.getD_some]
      exact List.getElem_mem _
    refine ⟨.slice (some a) len cap, len, fun i => if h : i < len then (hall i h).choose else 0#8, hcs, .inr ⟨a, cap, rfl, hl, fun j hj => ?_⟩⟩
    rw [hcell j (by omega)]
    simp only [yv, dif_pos hj]
    rw [← (hall j hj).choose_spec]
def WArg (v : Value) (W : World) : Prop := ∃ k us ls bs, WA v k us ls bs W
open Go.ChangeShapes Go.WideShapes Go.ChangeAt in
set_option maxRecDepth 100000 in
theorem warg {H : Type} {enc : TypeId × Value → H} {W : World} {r : Reach} {b0 base : Nat} {spare : Nat → Bool} {held : Bool} {v : Value} {d : DataW H} {p : List MemPlace}
    (hv : Value.okWide Tryd.prog W r b0 33 v) (h : DataW.Trod enc Tryd.prog W base spare held 33 v d p) : WArg v W := by
  obtain ⟨a, len, cap, rfl⟩ := okWide_slice Tryd.underlying33 hv
  obtain ⟨fuel, hf⟩ := h
  have hC : Tryd.prog.cellsOf 23 = 1 := by kernel_rfl
  rcases Go.Deep.open_slice Tryd.underlying33 hf with ⟨hcs, _⟩ | ⟨x, l, c, m, n, D, Pl, hcs, _, hl, hm, hmm, _, hx⟩
  · simp [Value.cells] at hcs
    obtain ⟨rfl, rfl, rfl⟩ := hcs
    exact ⟨0, fun _ => undef, fun _ => 0, fun _ _ => 0#8, .inl ⟨rfl, rfl⟩, fun i hi => absurd hi (by omega), by omega⟩
  · simp [Value.cells] at hcs
    obtain ⟨rfl, rfl, rfl⟩ := hcs
    have hlt : x.block < W.heap.size := by
      simp only [Value.okWide, Tryd.underlying33, Cell.okWide, Cell.ok] at hv
      exact has_lt hv.2.2
    have hlm : len ≤ m := by rw [hmm]; split <;> omega
    have each : ∀ i, i < len → ∃ q : Value × Nat × (Nat → BitVec 8), W.cell? (x.add i) = some q.1 ∧ PV q.1 q.2.1 q.2.2 W := by
      intro i hi
      obtain ⟨cs', h1, h2⟩ := hx i (by omega)
      rw [hC] at h1
      obtain ⟨_, hlen, hcell⟩ := World.cells?_some h1
      obtain ⟨u, l', b, rfl, hp⟩ := open_piece h2
      refine ⟨(u, l', b), ?_, hp⟩
      have e := hcell 0 (by omega)
      rw [add_add] at e
      simpa using e
    obtain ⟨q, hq⟩ := Go.Deep.choose_lt each
    exact ⟨len, fun i => (q i).1, fun i => (q i).2.1, fun i => (q i).2.2, .inr ⟨x, cap, rfl, hl, fun j hj => (hq j hj).1, hlt⟩, fun i hi => (hq i hi).2, by unfold maxLen at hm; omega⟩
set_option maxRecDepth 20000 in
set_option maxHeartbeats 2000000 in
theorem check_path (n i : Int) (k : Nat) (leaf root : Nat → BitVec 8) (pv : Value) (us : Nat → Value) (ls : Nat → Nat) (w : World) (hP : PartsW pv k us ls w) (hk : k ≤ 9223372036854775807) (hno : isP n k ls = false) :
    Calls Tryd.prog 21 #[.int .i64 n, .int .i64 i, .agg (row 32 (yv leaf)).toArray, pv, .agg (row 32 (yv root)).toArray] w fun e w' => e = .returned (.int .i64 1) ∧ Ext w w' := by
  obtain ⟨ov, cap, rfl⟩ := hP.form
  obtain ⟨M1, M2, M3, M4, M5, M6⟩ := chk_mem w leaf root (.slice ov k cap)
  have kp := pathw_any n (.slice ov k cap) k us ls _ (hP.ext M5) hk
  rw [hno] at kp
  replace kp := hideit kp
  have e2 := M2.1 0 (by decide)
  replace M4 := hideit M4
  replace M5 := hideit M5
  clear M1 M2 M3 hP hno
  refine (callsIn_wide (n := 4)).1 (callsIn_of_wp_marks Tryd.func21 rfl trivial ?_ rfl)
  refine wpIn_wide.2 ?_
  simp only [Tryd.ntmps21, List.size_toArray, List.length_cons, List.length_nil, Nat.reduceAdd, Nat.reduceSub, Array.replicate_succ, Array.replicate_zero, List.push_toArray, List.append_toArray, List.nil_append, List.cons_append]
  go_upto_region 1 with (fail)
  generalize (((w.alloc (.cells (row 32 (yv leaf)).toArray 25)).alloc (.cells #[.slice ov k cap] 33)).alloc (.cells (row 32 (yv root)).toArray 25)).alloc (.cells #[.int .i64 0] 26) = w4 at *
  go_upto_region 2 with (go_at_call 33; refine kp.out.mono ?_; rintro e w5 ⟨rfl, hX5⟩; have N4 := hideit (M4.out.carry hX5); have N5 := hideit (Ext.trans M5.out hX5); clear hX5 M4 M5 kp e2)
  have e1 := N4.out.1 0 (by decide)
  have e2 := N4.out.2.1 0 (by decide)
  have hR9 := hideit ((N4.out.set 0 (.int .i64 1)).congr (g' := fun _ => .int .i64 1) fun t ht => by rw [if_pos (by omega)])
  have hE9 := hideit (Below.setCell (p := ⟨w.heap.size + 3, 0, none⟩) N5.out (by show w.heap.size ≤ w.heap.size + 3; omega) (.int .i64 1))
  refine wp_region_lit ?_
  refine wpList_st rfl (w5.setCell ⟨w.heap.size + 3, 0, none⟩ (.int .i64 1)) (by simp [go_sem, e1, e2]) ?_
  generalize w5.setCell ⟨w.heap.size + 3, 0, none⟩ (.int .i64 1) = w10 at *
  clear e1 e2 N4 N5
  simp only [Act.put]
  go_wp2
  have hc := hR9.out.1 0 (by decide)
  exact postM_ret rfl (v := .int .i64 1) (by simp [results, Tryd.results21, go_sem, hc]) ⟨rfl, hE9.out⟩
set_option maxRecDepth 20000 in
set_option maxHeartbeats 2000000 in
theorem check_place (n i : Int) (k : Nat) (leaf root : Nat → BitVec 8) (pv : Value) (us : Nat → Value) (ls : Nat → Nat) (w : World) (hP : PartsW pv k us ls w) (hk : k ≤ 9223372036854775807) (hyes : isP n k ls = true) (hi : i < 0 ∨ n ≤ i) :
    Calls Tryd.prog 21 #[.int .i64 n, .int .i64 i, .agg (row 32 (yv leaf)).toArray, pv, .agg (row 32 (yv root)).toArray] w fun e w' => e = .returned (.int .i64 1) ∧ Ext w w' := by
  obtain ⟨ov, cap, rfl⟩ := hP.form
  obtain ⟨M1, M2, M3, M4, M5, M6⟩ := chk_mem w leaf root (.slice ov k cap)
  have kp := pathw_any n (.slice ov k cap) k us ls _ (hP.ext M5) hk
  rw [hyes] at kp
  replace kp := hideit kp
  have e2 := M2.1 0 (by decide)
  replace M4 := hideit M4
  replace M5 := hideit M5
  clear M1 M2 M3 hP hyes
  refine (callsIn_wide (n := 4)).1 (callsIn_of_wp_marks Tryd.func21 rfl trivial ?_ rfl)
  refine wpIn_wide.2 ?_
  simp only [Tryd.ntmps21, List.size_toArray, List.length_cons, List.length_nil, Nat.reduceAdd, Nat.reduceSub, Array.replicate_succ, Array.replicate_zero, List.push_toArray, List.append_toArray, List.nil_append, List.cons_append]
  go_upto_region 1 with (fail)
  generalize (((w.alloc (.cells (row 32 (yv leaf)).toArray 25)).alloc (.cells #[.slice ov k cap] 33)).alloc (.cells (row 32 (yv root)).toArray 25)).alloc (.cells #[.int .i64 0] 26) = w4 at *
  by_cases i0 : i < 0
  · clear hi
    go_upto_region 2 with (go_at_call 33; refine kp.out.mono ?_; rintro e w5 ⟨rfl, hX5⟩; have N4 := hideit (M4.out.carry hX5); have N5 := hideit (Ext.trans M5.out hX5); clear hX5 M4 M5 kp e2)
    have e1 := N4.out.1 0 (by decide)
    have e2 := N4.out.2.1 0 (by decide)
    have hR9 := hideit ((N4.out.set 0 (.int .i64 1)).congr (g' := fun _ => .int .i64 1) fun t ht => by rw [if_pos (by omega)])
    have hE9 := hideit (Below.setCell (p := ⟨w.heap.size + 3, 0, none⟩) N5.out (by show w.heap.size ≤ w.heap.size + 3; omega) (.int .i64 1))
    refine wp_region_lit ?_
    refine wpList_st rfl (w5.setCell ⟨w.heap.size + 3, 0, none⟩ (.int .i64 1)) (by simp [go_sem, e1, e2]) ?_
    generalize w5.setCell ⟨w.heap.size + 3, 0, none⟩ (.int .i64 1) = w10 at *
    clear e1 e2 N4 N5
    simp only [Act.put]
    go_wp2
    have hc := hR9.out.1 0 (by decide)
    exact postM_ret rfl (v := .int .i64 1) (by simp [results, Tryd.results21, go_sem, hc]) ⟨rfl, hE9.out⟩
  · have i1 : n ≤ i := by omega
    clear hi
    go_upto_region 2 with (go_at_call 33; refine kp.out.mono ?_; rintro e w5 ⟨rfl, hX5⟩; have N4 := hideit (M4.out.carry hX5); have N5 := hideit (Ext.trans M5.out hX5); clear hX5 M4 M5 kp e2)
    have e1 := N4.out.1 0 (by decide)
    have e2 := N4.out.2.1 0 (by decide)
    have hR9 := hideit ((N4.out.set 0 (.int .i64 1)).congr (g' := fun _ => .int .i64 1) fun t ht => by rw [if_pos (by omega)])
    have hE9 := hideit (Below.setCell (p := ⟨w.heap.size + 3, 0, none⟩) N5.out (by show w.heap.size ≤ w.heap.size + 3; omega) (.int .i64 1))
    refine wp_region_lit ?_
    refine wpList_st rfl (w5.setCell ⟨w.heap.size + 3, 0, none⟩ (.int .i64 1)) (by simp [go_sem, e1, e2]) ?_
    generalize w5.setCell ⟨w.heap.size + 3, 0, none⟩ (.int .i64 1) = w10 at *
    clear e1 e2 N4 N5
    simp only [Act.put]
    go_wp2
    have hc := hR9.out.1 0 (by decide)
    exact postM_ret rfl (v := .int .i64 1) (by simp [results, Tryd.results21, go_sem, hc]) ⟨rfl, hE9.out⟩
/-- when Check tells OK -/
structure Good (n i : Int) (k : Nat) (ls : Nat → Nat) (leaf : Nat → BitVec 8) (bs : Nat → Nat → BitVec 8) (root : Nat → BitVec 8) (m x : Nat) : Prop where
  n : n = (m : Int)
  i : i = (x : Int)
  one : 1 ≤ m
  most : m ≤ 4096
  at_ : x < m
  lvls : k = lvN m
  len : ∀ j, j < k → ls j = 512
  up : (chL leaf x bs (List.range k)).2
  top : ∀ t, t < 32 → rootF m (chL leaf x bs (List.range k)).1 t = root t
/-- what Check tells, in the document's order -/
def ckE (n i : Int) (k : Nat) (ls : Nat → Nat) (leaf : Nat → BitVec 8) (bs : Nat → Nat → BitVec 8) (root : Nat → BitVec 8) (z : Int) : Prop :=
  (z = 1 ∧ ¬ (isP n k ls = true ∧ 0 ≤ i ∧ i < n)) ∨ ((isP n k ls = true ∧ 0 ≤ i ∧ i < n) ∧ (z = 0 ∧ (∃ m x, Good n i k ls leaf bs root m x) ∨ z = 160 ∧ ¬ ∃ m x, Good n i k ls leaf bs root m x))
theorem check_all (n i : Int) (k : Nat) (leaf root : Nat → BitVec 8) (pv : Value) (us : Nat → Value) (ls : Nat → Nat) (bs : Nat → Nat → BitVec 8) (w : World) (hP : WA pv k us ls bs w) (hC : TabC w) :
    Calls Tryd.prog 21 #[.int .i64 n, .int .i64 i, .agg (row 32 (yv leaf)).toArray, pv, .agg (row 32 (yv root)).toArray] w fun e w' => ∃ z, e = .returned (.int .i64 z) ∧ Ext w w' ∧ ckE n i k ls leaf bs root z := by
  cases hp : isP n k ls with
  | false => exact (check_path n i k leaf root pv us ls w hP.w hP.most hp).mono fun e w' h => ⟨1, h.1, h.2, .inl ⟨rfl, fun h => by rw [hp] at h; cases h.1⟩⟩
  | true =>
    by_cases hi : i < 0 ∨ n ≤ i
    · exact (check_place n i k leaf root pv us ls w hP.w hP.most hp hi).mono fun e w' h => ⟨1, h.1, h.2, .inl ⟨rfl, fun h => by omega⟩⟩
    · obtain ⟨m, rfl, h1, h2, h3, h4⟩ := isP_spec hp
      obtain ⟨x, rfl⟩ : ∃ x : Nat, i = (x : Int) := ⟨i.toNat, by omega⟩
      have hx : x < m := by omega
      refine (check_go m x k h1 h2 hx leaf root pv us ls bs w (hP.parts h4) hC h3 h4).mono fun e w' ⟨z, he, hE, hz⟩ => ⟨z, he, hE, .inr ⟨⟨hp, by omega, by omega⟩, ?_⟩⟩
      rcases hz with ⟨hz, a, b⟩ | ⟨hz, hno⟩
      · exact .inl ⟨hz, m, x, rfl, rfl, h1, h2, hx, h3, h4, a, b⟩
      · refine .inr ⟨hz, fun ⟨m', x', g⟩ => hno ?_⟩
        obtain rfl : m = m' := Int.ofNat.inj g.n
        obtain rfl : x = x' := Int.ofNat.inj g.i
        exact ⟨g.up, g.top⟩
end Go.Proofs.YtapmheocllicnaaDoor

namespace Go.Proofs.YtapmheocllicnaaDoor
open Go.RowKit Go.BigFrame
theorem own_lit (w : World) (base : Nat) (e : TypeId) (n : Nat) (C : Array Value) (g : Nat → Value) (hb : base ≤ w.heap.size) (hC : C.toList = row n g) (hn : n ≤ 1000) : OwnB base e (.slice (some ⟨w.heap.size, 0, none⟩) n n) n g (w.alloc (.cells C e)) :=
  ⟨by rw [row_length, Nat.mul_one], .inr ⟨w.heap.size, n, C, rfl, hb, by
    show (w.heap.push (.cells C e))[w.heap.size]? = _
    simp, Nat.le_refl _, by unfold maxLen; omega, by rw [← Array.length_toList, hC, row_length, Nat.mul_one], by rw [hC, Nat.mul_one]; exact List.take_of_length_le (by rw [row_length]; exact Nat.le_refl _)⟩⟩
def hd2 (c : BitVec 8) (j : Nat) : BitVec 8 := if j = 0 then 1#8 else c
set_option maxRecDepth 20000 in
set_option maxHeartbeats 2000000 in
theorem rnode_any (x : Int) (c : BitVec 8) (hc : x % 256 = (c.toNat : Int)) (v : Value) (l : Nat) (b : Nat → BitVec 8) (w : World) (hv : BV v l b w) (hl : l ≤ 140737488351200) :
    Calls Tryd.prog 15 #[.int .i64 x, v] w fun e w' => e = .returned (.agg (row 32 (yv (nodeF c b l))).toArray) ∧ Ext w w' := by
  obtain ⟨ov, cap, rfl⟩ := hv.form
  obtain ⟨R, hR⟩ : ∃ R, R = nodeF c b l := ⟨_, rfl⟩
  have hz := zero24
  have HR0 := hideit (RowAt.new w 32 (yv fun _ => 0#8) 25)
  have HE0 : Ext w (w.alloc (.cells (row 32 (yv fun _ => 0#8)).toArray 25)) := (Below.refl _ _).alloc (Nat.le_refl _) _
  have hv1 := hv.ext HE0
  replace HE0 := hideit HE0
  rw [← hR]
  replace hR := hideit hR
  clear hv
  go_enter Tryd.func15, Tryd.ntmps15
  go_upto_region 1 with (fail)
  have hsz1 : (w.alloc (.cells (row 32 (yv fun _ => 0#8)).toArray 25)).heap.size = w.heap.size + 1 := by simp
  generalize w.alloc (.cells (row 32 (yv fun _ => 0#8)).toArray 25) = w1 at *
  refine wp_region_lit ?_
  refine wpList_run rfl (.int .i64 x) (by simp [go_sem]) ?_
  simp only [Act.put, List.setIfInBounds_toArray, List.set_cons_zero, List.set_cons_succ]
  refine wpList_run rfl (.int .u8 (c.toNat : Int)) (by simp [go_sem, wrap8, hc]) ?_
  simp only [Act.put, List.setIfInBounds_toArray, List.set_cons_zero, List.set_cons_succ]
  refine wpList_to rfl (.slice (some ⟨w1.heap.size, 0, none⟩) 2 2) (w1.alloc (.cells #[.int .u8 1, .int .u8 (c.toNat : Int)] 5)) (by simp [go_sem]) ?_
  simp only [Act.put, List.setIfInBounds_toArray, List.set_cons_zero, List.set_cons_succ]
  have hX : Ext w1 (w1.alloc (.cells #[.int .u8 1, .int .u8 (c.toNat : Int)] 5)) := (Below.refl _ _).alloc (Nat.le_refl _) _
  have hO := hideit (own_lit w1 (w.heap.size + 1) 5 2 #[.int .u8 1, .int .u8 (c.toNat : Int)] (yv (hd2 c)) (by omega) rfl (by decide))
  have hv2 := hideit (hv1.ext hX)
  have HE2 := hideit (Ext.trans HE0.out hX)
  have HR2 := hideit (HR0.out.carry hX)
  generalize w1.heap.size = a1 at *
  generalize w1.alloc (.cells #[.int .u8 1, .int .u8 (c.toNat : Int)] 5) = w2 at *
  clear hX hv1 HE0 HR0
  refine wpList_run rfl (.slice ov l cap) (by simp [go_sem]) ?_
  simp only [Act.put, List.setIfInBounds_toArray, List.set_cons_zero, List.set_cons_succ]
  refine wpList_growV (n := 2) (base := w.heap.size + 1) elem22 rfl (.tmp 7) (.tmp 8) rfl rfl hO.out (.slice ov l cap) l b (yv (nodeT c b)) rfl hv2.out (fun j hj => by
    rcases (by omega : j = 0 ∨ j = 1) with rfl | rfl <;> rfl) (fun j hj => by
    unfold yv nodeT
    rw [if_neg (by omega), if_neg (by omega), show 2 + j - 2 = j by omega]) (by omega) (by have := HR2.out.2.2; omega) ?_
  intro v1 Y hO1 hg1
  have hE3 := hideit (grownE HE2.out hO.out (by omega) hg1)
  have HR3 := hideit (HR2.out.grown hg1 (by intro e; have := (hO.out.lt _ e.symm).1; omega))
  have hbv := hO1.bv
  obtain ⟨o1, c1, rfl⟩ := hbv.form
  have hsm := rsumV _ _ _ Y hbv (by omega)
  rw [show shaF (nodeT c b) (2 + l) = R by rw [hR.out]; rfl] at hsm
  replace hsm := hideit hsm
  simp only [Act.put, List.setIfInBounds_toArray, List.set_cons_zero, List.set_cons_succ]
  clear hO hv2 HE2 HR2 hO1 hg1 hbv
  refine wpList_call rfl (by simp [go_sem]) ((hsm.out).mono ?_)
  rintro e w4 ⟨rfl, hw4⟩
  refine ⟨_, rfl, ?_⟩
  simp only [Act.put, List.setIfInBounds_toArray, List.set_cons_zero, List.set_cons_succ]
  have HE4 := hideit (Ext.trans hE3.out hw4)
  have HR4 := hideit (HR3.out.carry hw4)
  clear hE3 HR3 hw4 hsm
  refine wpList_store_mid rfl 25 (.tmp 4) (.tmp 10) rfl _ 0 (row 32 (yv R)).toArray rfl rfl (by rw [row_size]; exact HR4.out.there) (by rw [row_size]; exact info24) (row_one fun _ _ => rfl) ?_
  go_wp2
  exact bodyPost_ret (ret_row Tryd.results15 rfl (HR4.out.cells (g' := yv R)) Tryd.underlying25 rfl info24) rfl ⟨rfl, below_setCells _ (Nat.le_refl _) _ _ _ HE4.out⟩
set_option maxRecDepth 20000 in
set_option maxHeartbeats 2000000 in
theorem rleaf_any (v : Value) (l : Nat) (b : Nat → BitVec 8) (w : World) (hv : BV v l b w) (hl : l ≤ 140737488351200) :
    Calls Tryd.prog 13 #[v] w fun e w' => e = .returned (.agg (row 32 (yv (leafF b l))).toArray) ∧ Ext w w' := by
  obtain ⟨ov, cap, rfl⟩ := hv.form
  obtain ⟨R, hR⟩ : ∃ R, R = leafF b l := ⟨_, rfl⟩
  have hz := zero24
  have HR0 := hideit (RowAt.new w 32 (yv fun _ => 0#8) 25)
  have HE0 : Ext w (w.alloc (.cells (row 32 (yv fun _ => 0#8)).toArray 25)) := (Below.refl _ _).alloc (Nat.le_refl _) _
  have hv1 := hv.ext HE0
  replace HE0 := hideit HE0
  rw [← hR]
  replace hR := hideit hR
  clear hv
  go_enter Tryd.func13, Tryd.ntmps13
  go_upto_region 1 with (fail)
  have hsz1 : (w.alloc (.cells (row 32 (yv fun _ => 0#8)).toArray 25)).heap.size = w.heap.size + 1 := by simp
  generalize w.alloc (.cells (row 32 (yv fun _ => 0#8)).toArray 25) = w1 at *
  refine wp_region_lit ?_
  refine wpList_to rfl (.slice (some ⟨w1.heap.size, 0, none⟩) 1 1) (w1.alloc (.cells #[.int .u8 0] 5)) (by simp [go_sem]) ?_
  simp only [Act.put, List.setIfInBounds_toArray, List.set_cons_zero, List.set_cons_succ]
  have hX : Ext w1 (w1.alloc (.cells #[.int .u8 0] 5)) := (Below.refl _ _).alloc (Nat.le_refl _) _
  have hO := hideit (own_lit w1 (w.heap.size + 1) 5 1 #[.int .u8 0] (yv fun _ => 0#8) (by omega) rfl (by decide))
  have hv2 := hideit (hv1.ext hX)
  have HE2 := hideit (Ext.trans HE0.out hX)
  have HR2 := hideit (HR0.out.carry hX)
  generalize w1.heap.size = a1 at *
  generalize w1.alloc (.cells #[.int .u8 0] 5) = w2 at *
  clear hX hv1 HE0 HR0
  refine wpList_run rfl (.slice ov l cap) (by simp [go_sem]) ?_
  simp only [Act.put, List.setIfInBounds_toArray, List.set_cons_zero, List.set_cons_succ]
  refine wpList_growV (n := 1) (base := w.heap.size + 1) elem22 rfl (.tmp 3) (.tmp 4) rfl rfl hO.out (.slice ov l cap) l b (yv (leafT b)) rfl hv2.out (fun j hj => by
    have : j = 0 := by omega
    subst this
    rfl) (fun j hj => by
    unfold yv leafT
    rw [if_neg (by omega), show 1 + j - 1 = j by omega]) (by omega) (by have := HR2.out.2.2; omega) ?_
  intro v1 Y hO1 hg1
  have hE3 := hideit (grownE HE2.out hO.out (by omega) hg1)
  have HR3 := hideit (HR2.out.grown hg1 (by intro e; have := (hO.out.lt _ e.symm).1; omega))
  have hbv := hO1.bv
  obtain ⟨o1, c1, rfl⟩ := hbv.form
  have hsm := rsumV _ _ _ Y hbv (by omega)
  rw [show shaF (leafT b) (1 + l) = R by rw [hR.out]; rfl] at hsm
  replace hsm := hideit hsm
  simp only [Act.put, List.setIfInBounds_toArray, List.set_cons_zero, List.set_cons_succ]
  clear hO hv2 HE2 HR2 hO1 hg1 hbv
  refine wpList_call rfl (by simp [go_sem]) ((hsm.out).mono ?_)
  rintro e w4 ⟨rfl, hw4⟩
  refine ⟨_, rfl, ?_⟩
  simp only [Act.put, List.setIfInBounds_toArray, List.set_cons_zero, List.set_cons_succ]
  have HE4 := hideit (Ext.trans hE3.out hw4)
  have HR4 := hideit (HR3.out.carry hw4)
  clear hE3 HR3 hw4 hsm
  refine wpList_store_mid rfl 25 (.tmp 2) (.tmp 6) rfl _ 0 (row 32 (yv R)).toArray rfl rfl (by rw [row_size]; exact HR4.out.there) (by rw [row_size]; exact info24) (row_one fun _ _ => rfl) ?_
  go_wp2
  exact bodyPost_ret (ret_row Tryd.results13 rfl (HR4.out.cells (g' := yv R)) Tryd.underlying25 rfl info24) rfl ⟨rfl, below_setCells _ (Nat.le_refl _) _ _ _ HE4.out⟩
end Go.Proofs.YtapmheocllicnaaDoor

namespace Go.Proofs.YtapmheocllicnaaDoor
open Go.RowKit Go.BigFrame
set_option maxRecDepth 20000 in
set_option maxHeartbeats 2000000 in
theorem rlevels_no (n : Int) (hn : n < 1 ∨ 4096 < n) (w : World) : Calls Tryd.prog 18 #[.int .i64 n] w fun e w' => e = .returned (.slice none 0 0) ∧ w' = w := by
  by_cases h : n < 1
  · go_enter Tryd.func18, Tryd.ntmps18
    go_wp2
    go_ret
    exact ⟨rfl, rfl⟩
  · have h4 : 4096 < n := by omega
    go_enter Tryd.func18, Tryd.ntmps18
    go_wp2
    go_ret
    exact ⟨rfl, rfl⟩
set_option maxRecDepth 20000 in
set_option maxHeartbeats 2000000 in
theorem rlevels_any (n : Nat) (w : World) (h1 : 1 ≤ n) (h2 : n ≤ 4096) : Calls Tryd.prog 18 #[.int .i64 (n : Int)] w fun e w' => ∃ v, e = .returned v ∧ OwnB w.heap.size 3 v (lvN n) (lcV n) w' ∧ Ext w w' := by
  obtain ⟨N, hN⟩ : ∃ N, N = lvN n := ⟨_, rfl⟩
  have hc := fun c c1 c2 => @lv_cases n c h1 h2 c1 c2
  have hN1 := lvN_pos n
  rw [← hN] at hc hN1 ⊢
  replace hN := hideit hN
  replace hc := hideit hc
  obtain ⟨m, hm⟩ : ∃ m, m = lc n 0 := ⟨_, rfl⟩
  have hm' : m = (n + 15) / 16 := hm
  have w0 : IntKind.i64.wrap ((n : Int) + 15) = (n : Int) + 15 := by rw [IntKind.wrap_i64]; omega
  have eq0 : Int.tdiv ((n : Int) + 15) 16 = (m : Int) := by rw [hm', Int.tdiv_eq_ediv_of_nonneg (by omega)]; omega
  have ew0 : IntKind.i64.wrap (m : Int) = (m : Int) := by rw [IntKind.wrap_i64]; omega
  replace hm := hideit hm
  replace w0 := hideit w0
  replace eq0 := hideit eq0
  replace ew0 := hideit ew0
  clear hm'
  have i1 : ¬ (n : Int) < 1 := by omega
  have i2 : ¬ (4096 : Int) < (n : Int) := by omega
  go_enter Tryd.func18, Tryd.ntmps18
  go_upto_region 4 with (fail)
  refine wp_region_lit ?_
  refine wpList_run rfl (.int .i64 (n : Int)) (by simp [go_sem]) ?_
  simp only [Act.put, List.setIfInBounds_toArray, List.set_cons_zero, List.set_cons_succ]
  refine wpList_run rfl (.int .i64 ((n : Int) + 15)) (by simp [go_sem, w0.out]) ?_
  simp only [Act.put, List.setIfInBounds_toArray, List.set_cons_zero, List.set_cons_succ]
  refine wpList_run rfl (.int .i64 (m : Int)) (by simp [go_sem, eq0.out, ew0.out]) ?_
  simp only [Act.put, List.setIfInBounds_toArray, List.set_cons_zero, List.set_cons_succ]
  go_wp2
  go_loopw [0, 3] (fun b l X => ∃ q c : Nat, b = .int .i64 (q : Int) ∧ c < N ∧ q = lc n c ∧ OwnB w.heap.size 3 l c (lcV n) X ∧ Ext w X) (fun b _ _ => (intOf b).toNat)
  case atStart => exact ⟨m, 0, rfl, by omega, hm.out, own_nil _ _ _ _, Ext.refl _⟩
  case round =>
    obtain ⟨q, c, rfl, c2, hq, hO, hE⟩ := hrel
    clear w0 eq0 ew0
    replace hO := hideit hO
    replace hE := hideit hE
    obtain ⟨g1, g2, g3⟩ := hc.out (c + 1) (by omega) (by omega)
    rw [Nat.add_sub_cancel, ← hq] at g1 g2 g3
    have hN' : ∀ z : Nat, Hid (LieAt ⟨wr.heap.size, 0, none⟩ 1 (fun _ => .int .i64 (z : Int)) (wr.alloc (.cells #[.int .i64 (z : Int)] 3))) := fun z => lie_us wr 1 _ _ (fun j hj => by
      have : j = 0 := by omega
      subst this
      rfl) 3
    have hX : ∀ z : Nat, Ext wr (wr.alloc (.cells #[.int .i64 (z : Int)] 3)) := fun z => (Below.refl _ _).alloc (Nat.le_refl _) _
    by_cases hlt : 1 < q
    · have q1 : (1 : Int) < (q : Int) := by omega
      have hcN : c + 1 < N := g1.1 hlt
      obtain ⟨p, hp⟩ : ∃ p, p = (q + 15) / 16 := ⟨_, rfl⟩
      have hpc : p = lc n (c + 1) := by rw [hp, hq]; rfl
      have hpq : p < q := by omega
      have w0 : IntKind.i64.wrap ((q : Int) + 15) = (q : Int) + 15 := by rw [IntKind.wrap_i64]; omega
      have eq0 : Int.tdiv ((q : Int) + 15) 16 = (p : Int) := by rw [hp, Int.tdiv_eq_ediv_of_nonneg (by omega)]; omega
      have ew0 : IntKind.i64.wrap (p : Int) = (p : Int) := by rw [IntKind.wrap_i64]; omega
      replace w0 := hideit w0
      replace eq0 := hideit eq0
      replace ew0 := hideit ew0
      replace hpc := hideit hpc
      replace hq := hideit hq
      clear hp g1
      go_upto_region 7 with (fail)
      have hO2 := hideit (hO.out.ext (hX q))
      have hE2 := hideit (Ext.trans hE.out (hX q))
      have hL2 := hN' q
      clear hO hE hX hN'
      refine wp_region_lit ?_
      refine wpList_run rfl (u3) (by simp [go_sem]) ?_
      simp only [Act.put, List.setIfInBounds_toArray, List.set_cons_zero, List.set_cons_succ]
      refine wpList_run rfl (.int .i64 (q : Int)) (by simp [go_sem]) ?_
      simp only [Act.put, List.setIfInBounds_toArray, List.set_cons_zero, List.set_cons_succ]
      refine wpList_to rfl (.slice (some ⟨wr.heap.size, 0, none⟩) 1 1) (wr.alloc (.cells #[.int .i64 (q : Int)] 3)) (by simp [go_sem]) ?_
      simp only [Act.put, List.setIfInBounds_toArray, List.set_cons_zero, List.set_cons_succ]
      refine wpList_growE (n := c) (base := w.heap.size) elem34 rfl (.tmp 18) (.tmp 20) rfl rfl hO2.out ⟨wr.heap.size, 0, none⟩ 1 1 (fun _ => .int .i64 (q : Int)) (lcV n) rfl hL2.out (fun _ _ => rfl) (fun _ _ => rfl) (fun j hj => by rw [show j = 0 by omega]; unfold lcV; rw [hq.out]; rfl) (by omega) (by omega) (Below.size hE2.out) ?_
      intro v' Y hO' hg'
      have hE3 := hideit (grownE hE2.out hO2.out (Nat.le_refl _) hg')
      replace hO' := hideit hO'
      clear hO2 hL2 hE2 hg'
      simp only [Act.put, List.setIfInBounds_toArray, List.set_cons_zero, List.set_cons_succ]
      go_upto_region 6 with (fail)
      refine wp_region_lit ?_
      refine wpList_run rfl (.int .i64 (q : Int)) (by simp [go_sem]) ?_
      simp only [Act.put, List.setIfInBounds_toArray, List.set_cons_zero, List.set_cons_succ]
      refine wpList_run rfl (.int .i64 ((q : Int) + 15)) (by simp [go_sem, w0.out]) ?_
      simp only [Act.put, List.setIfInBounds_toArray, List.set_cons_zero, List.set_cons_succ]
      refine wpList_run rfl (.int .i64 (p : Int)) (by simp [go_sem, eq0.out, ew0.out]) ?_
      simp only [Act.put, List.setIfInBounds_toArray, List.set_cons_zero, List.set_cons_succ]
      go_wp2
      exact ⟨⟨p, c + 1, rfl, by omega, hpc.out, hO'.out, hE3.out⟩, by simp [intOf]; omega⟩
    · have q1 : ¬ (1 : Int) < (q : Int) := by omega
      have hcN : c + 1 = N := by omega
      have hq1 : q = 1 := by omega
      subst hq1
      replace hq := hideit hq
      clear g1
      have hO2 := hideit (hO.out.ext (hX 1))
      have hE2 := hideit (Ext.trans hE.out (hX 1))
      have hL2 := hN' 1
      clear hO hE hX hN'
      go_upto_region 8 with (fail)
      refine wp_region_lit ?_
      refine wpList_run rfl (u3) (by simp [go_sem]) ?_
      simp only [Act.put, List.setIfInBounds_toArray, List.set_cons_zero, List.set_cons_succ]
      refine wpList_to rfl (.slice (some ⟨wr.heap.size, 0, none⟩) 1 1) (wr.alloc (.cells #[.int .i64 ((1 : Nat) : Int)] 3)) (by simp [go_sem]) ?_
      simp only [Act.put, List.setIfInBounds_toArray, List.set_cons_zero, List.set_cons_succ]
      refine wpList_growE (n := c) (base := w.heap.size) elem34 rfl (.tmp 22) (.tmp 23) rfl rfl hO2.out ⟨wr.heap.size, 0, none⟩ 1 1 (fun _ => .int .i64 ((1 : Nat) : Int)) (lcV n) rfl hL2.out (fun _ _ => rfl) (fun _ _ => rfl) (fun j hj => by rw [show j = 0 by omega]; unfold lcV; rw [Nat.add_zero, ← hq.out]) (by omega) (by omega) (Below.size hE2.out) ?_
      intro v' Y hO' hg'
      have hE3 := hideit (grownE hE2.out hO2.out (Nat.le_refl _) hg')
      rw [hcN] at hO'
      replace hO' := hideit hO'
      clear hO2 hL2 hE2 hg'
      simp only [Act.put, List.setIfInBounds_toArray, List.set_cons_zero, List.set_cons_succ]
      go_wp2
      go_ret
      exact ⟨_, rfl, hO'.out, hE3.out⟩
def hd5 (n : Nat) (j : Nat) : BitVec 8 := if j = 0 then 2#8 else nB n (j - 1)
set_option maxRecDepth 20000 in
set_option maxHeartbeats 2000000 in
theorem rtop_any (n : Nat) (x : Int) (c : BitVec 8) (hc : x % 256 = (c.toNat : Int)) (v : Value) (b : Nat → BitVec 8) (w : World) (hv : BV v 512 b w) :
    Calls Tryd.prog 29 #[.int .i64 (n : Int), .int .i64 x, v] w fun e w' => e = .returned (.agg (row 32 (yv (rootF n (nodeF c b 512)))).toArray) ∧ Ext w w' := by
  obtain ⟨ov, cap, rfl⟩ := hv.form
  obtain ⟨G, hG⟩ : ∃ G, G = nodeF c b 512 := ⟨_, rfl⟩
  obtain ⟨R, hR⟩ : ∃ R, R = rootF n G := ⟨_, rfl⟩
  have hz := zero24
  have HR0 := hideit (RowAt.new w 32 (yv fun _ => 0#8) 25)
  have HE0 : Ext w (w.alloc (.cells (row 32 (yv fun _ => 0#8)).toArray 25)) := (Below.refl _ _).alloc (Nat.le_refl _) _
  have kn := rnode_any x c hc (.slice ov 512 cap) 512 b _ (hv.ext HE0) (by decide)
  rw [← hG] at kn ⊢
  rw [← hR]
  replace kn := hideit kn
  replace HE0 := hideit HE0
  replace hR := hideit hR
  clear hv hG
  have f0 := nB_fact n 0
  have f1 := nB_fact n 1
  have f2 := nB_fact n 2
  have f3 := nB_fact n 3
  simp at f0 f1 f2 f3
  go_enter Tryd.func29, Tryd.ntmps29
  go_upto_region 1 with (fail)
  generalize w.alloc (.cells (row 32 (yv fun _ => 0#8)).toArray 25) = w1 at *
  refine wp_region_lit ?_
  refine wpList_run rfl (.int .i64 x) (by simp [go_sem]) ?_
  simp only [Act.put, List.setIfInBounds_toArray, List.set_cons_zero, List.set_cons_succ]
  refine wpList_run rfl (.slice ov 512 cap) (by simp [go_sem]) ?_
  simp only [Act.put, List.setIfInBounds_toArray, List.set_cons_zero, List.set_cons_succ]
  refine wpList_call rfl (by simp [go_sem]) ((kn.out).mono ?_)
  rintro e w2 ⟨rfl, hX2⟩
  refine ⟨_, rfl, ?_⟩
  simp only [Act.put, List.setIfInBounds_toArray, List.set_cons_zero, List.set_cons_succ]
  have hXa : Ext w2 (w2.alloc (.cells (row 32 (yv fun _ => 0#8)).toArray 25)) := (Below.refl _ _).alloc (Nat.le_refl _) _
  have Ca := RowAt.new w2 32 (yv fun _ => 0#8) 25
  have hYa := Ext.trans hX2 (below_setCells (w := w2) w2.heap.size (Nat.le_refl _) (row 32 (yv G)) 0 _ hXa)
  have HG := hideit (Ca.cells (g' := yv G))
  have HR2 := hideit (HR0.out.carry hYa)
  have HE2 := hideit (Ext.trans HE0.out hYa)
  refine wpList_to rfl (.pointer (some ⟨w2.heap.size, 0, none⟩)) (w2.alloc (.cells (row 32 (yv fun _ => 0#8)).toArray 25)) (by simp [go_sem, hz]) ?_
  simp only [Act.put, List.setIfInBounds_toArray, List.set_cons_zero, List.set_cons_succ]
  refine wpList_store_mid rfl 25 (.tmp 7) (.tmp 10) rfl _ 0 (row 32 (yv G)).toArray rfl rfl (by rw [row_size]; exact Ca.there) (by rw [row_size]; exact info24) (row_one fun _ _ => rfl) ?_
  rw [show (row 32 (yv G)).toArray.toList = row 32 (yv G) from rfl]
  generalize (w2.alloc (.cells (row 32 (yv fun _ => 0#8)).toArray 25)).setCells w2.heap.size 0 (row 32 (yv G)) = w3 at *
  generalize w2.heap.size = gb at *
  clear hXa Ca hYa hX2 kn HR0 HE0
  simp only [Act.put]
  go_upto_region 2 with (fail)
  refine wp_region_lit ?_
  refine wpList_run rfl (.int .i64 (n : Int)) (by simp [go_sem]) ?_
  simp only [Act.put, List.setIfInBounds_toArray, List.set_cons_zero, List.set_cons_succ]
  refine wpList_run rfl (.int .u8 ((nB n 0).toNat : Int)) (by simp [go_sem, wrap8, f0]) ?_
  simp only [Act.put, List.setIfInBounds_toArray, List.set_cons_zero, List.set_cons_succ]
  refine wpList_run rfl (.int .i64 (n : Int)) (by simp [go_sem]) ?_
  simp only [Act.put, List.setIfInBounds_toArray, List.set_cons_zero, List.set_cons_succ]
  refine wpList_run rfl (.int .i64 ((n : Int) / 256)) (by simp [go_sem]) ?_
  simp only [Act.put, List.setIfInBounds_toArray, List.set_cons_zero, List.set_cons_succ]
  refine wpList_run rfl (.int .u8 ((nB n 1).toNat : Int)) (by simp [go_sem, wrap8, f1]) ?_
  simp only [Act.put, List.setIfInBounds_toArray, List.set_cons_zero, List.set_cons_succ]
  refine wpList_run rfl (.int .i64 (n : Int)) (by simp [go_sem]) ?_
  simp only [Act.put, List.setIfInBounds_toArray, List.set_cons_zero, List.set_cons_succ]
  refine wpList_run rfl (.int .i64 ((n : Int) / 65536)) (by simp [go_sem]) ?_
  simp only [Act.put, List.setIfInBounds_toArray, List.set_cons_zero, List.set_cons_succ]
  refine wpList_run rfl (.int .u8 ((nB n 2).toNat : Int)) (by simp [go_sem, wrap8, f2]) ?_
  simp only [Act.put, List.setIfInBounds_toArray, List.set_cons_zero, List.set_cons_succ]
  refine wpList_run rfl (.int .i64 (n : Int)) (by simp [go_sem]) ?_
  simp only [Act.put, List.setIfInBounds_toArray, List.set_cons_zero, List.set_cons_succ]
  refine wpList_run rfl (.int .i64 ((n : Int) / 16777216)) (by simp [go_sem]) ?_
  simp only [Act.put, List.setIfInBounds_toArray, List.set_cons_zero, List.set_cons_succ]
  refine wpList_run rfl (.int .u8 ((nB n 3).toNat : Int)) (by simp [go_sem, wrap8, f3]) ?_
  simp only [Act.put, List.setIfInBounds_toArray, List.set_cons_zero, List.set_cons_succ]
  clear f0 f1 f2 f3
  obtain ⟨C, hCC⟩ : ∃ C : Array Value, C = #[.int .u8 2, .int .u8 ((nB n 0).toNat : Int), .int .u8 ((nB n 1).toNat : Int), .int .u8 ((nB n 2).toNat : Int), .int .u8 ((nB n 3).toNat : Int)] := ⟨_, rfl⟩
  have hs3 : w.heap.size + 1 ≤ w3.heap.size := HR2.out.2.2
  have hO := hideit (own_lit w3 (w.heap.size + 1) 5 5 C (yv (hd5 n)) hs3 (by rw [hCC]; rfl) (by decide))
  have hX : Ext w3 (w3.alloc (.cells C 5)) := (Below.refl _ _).alloc (Nat.le_refl _) _
  refine wpList_to rfl (.slice (some ⟨w3.heap.size, 0, none⟩) 5 5) (w3.alloc (.cells C 5)) (by simp [go_sem, hCC]) ?_
  simp only [Act.put, List.setIfInBounds_toArray, List.set_cons_zero, List.set_cons_succ]
  have HG4 := hideit (HG.out.carry hX)
  have HR4 := hideit (HR2.out.carry hX)
  have HE4 := hideit (Ext.trans HE2.out hX)
  clear HG HR2 HE2 hX hCC hs3
  generalize w3.heap.size = a1 at *
  generalize w3.alloc (.cells C 5) = w4 at *
  refine wpList_run rfl (.slice (some ⟨gb, 0, none⟩) 32 32) (by simp [go_sem, cutR25]) ?_
  simp only [Act.put, List.setIfInBounds_toArray, List.set_cons_zero, List.set_cons_succ]
  refine wpList_growV (n := 5) (base := w.heap.size + 1) elem22 rfl (.tmp 22) (.tmp 23) rfl rfl hO.out (.slice (some ⟨gb, 0, none⟩) 32 32) 32 G (yv (rootT n G)) rfl (HG4.out.bv 32 (Nat.le_refl _)) (fun j hj => by
    unfold yv hd5 rootT
    by_cases h : j = 0
    · rw [if_pos h, if_pos h]
    · rw [if_neg h, if_neg h, if_pos hj]) (fun j hj => by
    unfold yv rootT
    rw [if_neg (by omega), if_neg (by omega), show 5 + j - 5 = j by omega]) (by omega) (by have := HR4.out.2.2; omega) ?_
  intro v1 Y hO1 hg1
  have hE3 := hideit (grownE HE4.out hO.out (by omega) hg1)
  have HR3 := hideit (HR4.out.grown hg1 (by intro e; have := (hO.out.lt _ e.symm).1; omega))
  have hbv := hO1.bv
  obtain ⟨o1, c1, rfl⟩ := hbv.form
  have hsm := rsumV _ _ _ Y hbv (by decide)
  rw [show shaF (rootT n G) (5 + 32) = R by rw [hR.out]; rfl] at hsm
  replace hsm := hideit hsm
  simp only [Act.put, List.setIfInBounds_toArray, List.set_cons_zero, List.set_cons_succ]
  clear hO HG4 HE4 HR4 hO1 hg1 hbv
  refine wpList_call rfl (by simp [go_sem]) ((hsm.out).mono ?_)
  rintro e w5 ⟨rfl, hw5⟩
  refine ⟨_, rfl, ?_⟩
  simp only [Act.put, List.setIfInBounds_toArray, List.set_cons_zero, List.set_cons_succ]
  have HE5 := hideit (Ext.trans hE3.out hw5)
  have HR5 := hideit (HR3.out.carry hw5)
  clear hE3 HR3 hw5 hsm
  refine wpList_store_mid rfl 25 (.tmp 6) (.tmp 25) rfl _ 0 (row 32 (yv R)).toArray rfl rfl (by rw [row_size]; exact HR5.out.there) (by rw [row_size]; exact info24) (row_one fun _ _ => rfl) ?_
  go_wp2
  exact bodyPost_ret (ret_row Tryd.results29 rfl (HR5.out.cells (g' := yv R)) Tryd.underlying25 rfl info24) rfl ⟨rfl, below_setCells _ (Nat.le_refl _) _ _ _ HE5.out⟩
end Go.Proofs.YtapmheocllicnaaDoor

namespace Go.Proofs.YtapmheocllicnaaDoor
open Go.RowKit Go.BigFrame
set_option maxRecDepth 20000 in
set_option maxHeartbeats 2000000 in
theorem rright_out (n : Int) (hn : n < 1 ∨ 4096 < n) (v : Value) (w : World) : Calls Tryd.prog 36 #[.int .i64 n, v] w fun e w' => e = .returned (.bool false) ∧ Ext w w' := by
  have k := hideit (rlevels_no n hn w)
  clear hn
  go_enter Tryd.func36, Tryd.ntmps36
  go_wp2_with (go_at_call 18; refine k.out.mono ?_; rintro e w9 ⟨rfl, hw9⟩; rw [hw9]; clear hw9)
  go_ret
  exact ⟨rfl, Ext.refl _⟩
set_option maxRecDepth 20000 in
set_option maxHeartbeats 2000000 in
theorem rright_in (n : Nat) (h1 : 1 ≤ n) (h2 : n ≤ 4096) (v : Value) (k : Nat) (us : Nat → Value) (ls : Nat → Nat) (w : World) (hP : PartsW v k us ls w) (hk : k ≤ 9223372036854775807) :
    Calls Tryd.prog 36 #[.int .i64 (n : Int), v] w fun e w' => e = .returned (.bool (decide (k = lvN n ∧ ∀ i, i < k → ls i = 512))) ∧ Ext w w' := by
  obtain ⟨ov, cap, rfl⟩ := hP.form
  have kl := hideit (rlevels_any n w h1 h2)
  have hN := (lvN_pos n)
  obtain ⟨N, hNN⟩ : ∃ N, N = lvN n := ⟨_, rfl⟩
  rw [← hNN] at kl hN ⊢
  obtain ⟨r, hr⟩ : ∃ r, r = decide (k = N ∧ ∀ i, i < k → ls i = 512) := ⟨_, rfl⟩
  rw [← hr]
  replace hr := hideit hr
  replace hP := hideit hP
  clear hNN h1 h2
  go_enter Tryd.func36, Tryd.ntmps36
  go_upto_region 1 with (fail)
  refine wp_region_lit ?_
  refine wpList_run rfl (.int .i64 (n : Int)) (by simp [go_sem]) ?_
  simp only [Act.put, List.setIfInBounds_toArray, List.set_cons_zero, List.set_cons_succ]
  refine wpList_call rfl (by simp [go_sem]) (kl.out.mono ?_)
  rintro e w1 ⟨v1, rfl, hO, hE⟩
  refine ⟨_, rfl, ?_⟩
  simp only [Act.put, List.setIfInBounds_toArray, List.set_cons_zero, List.set_cons_succ]
  obtain ⟨b1, c1, rfl, -, -, -, -⟩ := hO.lies (by omega)
  replace hE := hideit hE
  clear hO kl
  by_cases hkN : k = N
  · subst hkN
    have n0 : ¬ ((k : Nat) : Int) = 0 := by omega
    go_upto_region 4 with (fail)
    go_wp2
    go_loopw [6] (fun iv X => ∃ i : Nat, i ≤ k ∧ iv = .int .i64 (i : Int) ∧ (∀ j, j < i → ls j = 512) ∧ X = w1) (fun iv _ => k - (intOf iv).toNat)
    case atStart => exact ⟨0, by omega, rfl, fun j hj => absurd hj (by omega), rfl⟩
    case round =>
      obtain ⟨i, hi, rfl, hall, rfl⟩ := hrel
      replace hall := hideit hall
      by_cases hlt : i < k
      · have i0 : (0 : Int) ≤ (i : Int) := by omega
        have i1 : (i : Int) < (k : Int) := by omega
        obtain ⟨oi, ci, hui⟩ := hP.out.2 i hlt
        obtain ⟨a, rfl, hcell⟩ : ∃ a, ov = some a ∧ wr.cell? (a.add i) = some (us i) := by
          rcases hP.out.1 with ⟨h, h0⟩ | ⟨a, cap', h, _, h3⟩
          · omega
          · injection h with e1 e2 e3
            exact ⟨a, e1, (h3.carry hE.out).1 i hlt⟩
        rw [hui] at hcell
        clear hui
        by_cases h5 : ls i = 512
        · have i5 : ((ls i : Nat) : Int) = 512 := by omega
          replace h5 := hideit h5
          go_wp2
          exact ⟨⟨i + 1, by omega, by go_num, fun j hj => by
            rcases (by omega : j < i ∨ j = i) with h | rfl
            · exact hall.out j h
            · exact h5.out, by first | rfl | trivial⟩, by simp [intOf]; omega⟩
        · have i5 : ¬ ((ls i : Nat) : Int) = 512 := by omega
          replace h5 := hideit h5
          go_wp2
          go_ret
          refine ⟨ret_bool ?_, hE.out⟩
          rw [hr.out]
          symm
          exact decide_eq_false fun h => h5.out (h.2 i hlt)
      · obtain rfl : i = k := by omega
        have i1 : ¬ (i : Int) < (i : Int) := by omega
        go_wp2
        go_ret
        refine ⟨ret_bool ?_, hE.out⟩
        rw [hr.out]
        symm
        exact decide_eq_true ⟨by first | rfl | trivial, hall.out⟩
  · have n0 : ¬ ((N : Nat) : Int) = 0 := by omega
    have n1 : (((k : Nat) : Int) != (N : Int)) = true := by simp; omega
    have n2 : (((N : Nat) : Int) == 0) = false := by simp; omega
    replace hkN := hideit hkN
    go_wp2
    go_ret
    refine ⟨ret_bool ?_, hE.out⟩
    rw [hr.out]
    symm
    exact decide_eq_false fun h => hkN.out h.1
theorem rright_any (n : Int) (v : Value) (k : Nat) (us : Nat → Value) (ls : Nat → Nat) (w : World) (hP : PartsW v k us ls w) (hk : k ≤ 9223372036854775807) :
    Calls Tryd.prog 36 #[.int .i64 n, v] w fun e w' => e = .returned (.bool (isP n k ls)) ∧ Ext w w' := by
  by_cases hn : n < 1 ∨ 4096 < n
  · refine (rright_out n hn v w).mono fun e w' h => ⟨?_, h.2⟩
    rw [h.1]
    refine ret_bool ?_
    symm
    exact decide_eq_false fun h => by omega
  · obtain ⟨m, rfl⟩ : ∃ m : Nat, n = (m : Int) := ⟨n.toNat, by omega⟩
    refine (rright_in m (by omega) (by omega) v k us ls w hP hk).mono fun e w' h => ⟨?_, h.2⟩
    rw [h.1]
    refine ret_bool ?_
    unfold isP
    rw [Int.toNat_natCast]
    refine decide_eq_decide.2 ⟨fun h => ⟨by omega, by omega, h.1, h.2⟩, fun h => ⟨h.2.2.1, h.2.2.2⟩⟩
set_option maxRecDepth 20000 in
set_option maxHeartbeats 2000000 in
theorem rroot_no (n : Int) (k : Nat) (pv : Value) (us : Nat → Value) (ls : Nat → Nat) (w : World) (hP : PartsW pv k us ls w) (hk : k ≤ 9223372036854775807) (hno : isP n k ls = false) :
    Calls Tryd.prog 22 #[.int .i64 n, pv] w fun e w' => e = .returned (.tuple #[.agg (row 32 (yv fun _ => 0#8)).toArray, .int .i64 1]) ∧ Ext w w' := by
  have hz := zero24
  have HR0 := hideit (RowAt.new w 32 (yv fun _ => 0#8) 25)
  have HE0 : Ext w (w.alloc (.cells (row 32 (yv fun _ => 0#8)).toArray 25)) := (Below.refl _ _).alloc (Nat.le_refl _) _
  have kp := rright_any n pv k us ls _ (hP.ext HE0) hk
  rw [hno] at kp
  replace kp := hideit kp
  replace HE0 := hideit HE0
  clear hP hno
  go_enter Tryd.func22, Tryd.ntmps22
  go_upto_region 1 with (fail)
  generalize w.alloc (.cells (row 32 (yv fun _ => 0#8)).toArray 25) = w1 at *
  go_upto_region 2 with (go_at_call 36; refine kp.out.mono ?_; rintro e w5 ⟨rfl, hX5⟩; have HR1 := hideit (HR0.out.carry hX5); have HE1 := hideit (Ext.trans HE0.out hX5); clear hX5 HR0 HE0 kp)
  refine wp_region_lit ?_
  refine wpList_build rfl 25 [] rfl (.agg (row 32 (yv fun _ => 0#8)).toArray) (build25 _) ?_
  simp only [Act.put, List.setIfInBounds_toArray, List.set_cons_zero, List.set_cons_succ]
  refine wpList_store_mid rfl 25 (.tmp 4) (.tmp 10) rfl _ 0 (row 32 (yv fun _ => 0#8)).toArray rfl rfl (by rw [row_size]; exact HR1.out.there) (by rw [row_size]; exact info24) (row_one fun _ _ => rfl) ?_
  have res8 := hideit (HR1.out.cells (g' := yv fun _ => 0#8))
  have hE8 := hideit (below_setCells w.heap.size (Nat.le_refl _) (row 32 (yv fun _ => 0#8)) 0 w5 HE1.out)
  rw [show (row 32 (yv fun _ => 0#8)).toArray.toList = row 32 (yv fun _ => 0#8) from rfl]
  generalize w5.setCells w.heap.size 0 (row 32 (yv fun _ => 0#8)) = w8 at *
  clear HR1 HE1
  simp only [Act.put]
  go_wp2
  exact bodyPost_ret (ret_row2 Tryd.results22 rfl res8.out Tryd.underlying25 rfl info24) rfl ⟨rfl, hE8.out⟩
set_option maxRecDepth 20000 in
set_option maxHeartbeats 2000000 in
theorem rroot_ok (n k : Nat) (h1 : 1 ≤ n) (h2 : n ≤ 4096) (hkN : k = lvN n) (pv : Value) (us : Nat → Value) (ls : Nat → Nat) (bs : Nat → Nat → BitVec 8) (w : World) (hP : Parts pv k us ls bs w) (hls : ∀ i, i < k → ls i = 512) :
    Calls Tryd.prog 22 #[.int .i64 (n : Int), pv] w fun e w' => e = .returned (.tuple #[.agg (row 32 (yv (rootF n (nodeF (BitVec.ofNat 8 (k - 1)) (bs (k - 1)) 512)))).toArray, .int .i64 0]) ∧ Ext w w' := by
  have hk3 := lvN_pos n
  rw [← hkN] at hk3
  have hk4 : k ≤ 9223372036854775807 := by omega
  obtain ⟨ov, cap, rfl⟩ := hP.form
  have hz := zero24
  have HR0 := hideit (RowAt.new w 32 (yv fun _ => 0#8) 25)
  have HE0 : Ext w (w.alloc (.cells (row 32 (yv fun _ => 0#8)).toArray 25)) := (Below.refl _ _).alloc (Nat.le_refl _) _
  have hPW : PartsW (.slice ov k cap) k us ls w := ⟨hP.1, fun i hi => (hP.2 i hi).form⟩
  have kp := rright_any (n : Int) _ k us ls _ (hPW.ext HE0) hk4
  rw [isP_true h1 h2 hkN hls] at kp
  replace kp := hideit kp
  obtain ⟨t, ht⟩ : ∃ t, t = k - 1 := ⟨_, rfl⟩
  rw [← ht]
  have htk : t < k := by omega
  have hk' : k = t + 1 := by omega
  obtain ⟨R, hR⟩ : ∃ R, R = rootF n (nodeF (BitVec.ofNat 8 t) (bs t) 512) := ⟨_, rfl⟩
  rw [← hR]
  replace HE0 := hideit HE0
  replace hP := hideit hP
  replace hls := hideit hls
  replace hR := hideit hR
  have hw : IntKind.i64.wrap ((k : Int) - 1) = (t : Int) := by rw [IntKind.wrap_i64]; omega
  replace hw := hideit hw
  have t1 : (t : Int) < (k : Int) := by omega
  clear ht hkN hk' hPW
  go_enter Tryd.func22, Tryd.ntmps22
  go_upto_region 1 with (fail)
  generalize w.alloc (.cells (row 32 (yv fun _ => 0#8)).toArray 25) = w1 at *
  go_upto_region 3 with (go_at_call 36; refine kp.out.mono ?_; rintro e w5 ⟨rfl, hX5⟩; have HR1 := hideit (HR0.out.carry hX5); have HE1 := hideit (Ext.trans HE0.out hX5); clear hX5 HR0 HE0 kp)
  obtain ⟨om, cm, hum⟩ := (hP.out.2 t htk).form
  obtain ⟨a, rfl, hcell⟩ : ∃ a, ov = some a ∧ w5.cell? (a.add t) = some (us t) := by
    rcases hP.out.1 with ⟨h, h0⟩ | ⟨a, cap', h, _, h3⟩
    · omega
    · injection h with e1 e2 e3
      exact ⟨a, e1, (h3.carry HE1.out).1 t htk⟩
  have hbv := hP.out.2 t htk
  rw [hls.out t htk] at hum hbv
  rw [hum] at hcell hbv
  have kt := rtop_any n (t : Int) (BitVec.ofNat 8 t) (by rw [BitVec.toNat_ofNat]; omega) (.slice om 512 cm) (bs t) w5 (hbv.ext HE1.out)
  rw [← hR.out] at kt
  replace kt := hideit kt
  clear hum hbv hR
  refine wp_region_lit ?_
  refine wpList_run rfl (.int .i64 (n : Int)) (by simp [go_sem]) ?_
  simp only [Act.put, List.setIfInBounds_toArray, List.set_cons_zero, List.set_cons_succ]
  refine wpList_run rfl (.slice (some a) k cap) (by simp [go_sem]) ?_
  simp only [Act.put, List.setIfInBounds_toArray, List.set_cons_zero, List.set_cons_succ]
  refine wpList_run rfl (.int .i64 (k : Int)) (by simp [go_sem]) ?_
  simp only [Act.put, List.setIfInBounds_toArray, List.set_cons_zero, List.set_cons_succ]
  refine wpList_run rfl (.int .i64 (t : Int)) (by simp [go_sem, hw.out]) ?_
  simp only [Act.put, List.setIfInBounds_toArray, List.set_cons_zero, List.set_cons_succ]
  refine wpList_run rfl (.slice (some a) k cap) (by simp [go_sem]) ?_
  simp only [Act.put, List.setIfInBounds_toArray, List.set_cons_zero, List.set_cons_succ]
  refine wpList_run rfl (.slice (some a) k cap) (by simp [go_sem]) ?_
  simp only [Act.put, List.setIfInBounds_toArray, List.set_cons_zero, List.set_cons_succ]
  refine wpList_run rfl (.int .i64 (k : Int)) (by simp [go_sem]) ?_
  simp only [Act.put, List.setIfInBounds_toArray, List.set_cons_zero, List.set_cons_succ]
  refine wpList_run rfl (.int .i64 (t : Int)) (by simp [go_sem, hw.out]) ?_
  simp only [Act.put, List.setIfInBounds_toArray, List.set_cons_zero, List.set_cons_succ]
  refine wpList_run rfl (.pointer (some (a.add t))) (by simp [go_sem, t1]) ?_
  simp only [Act.put, List.setIfInBounds_toArray, List.set_cons_zero, List.set_cons_succ]
  refine wpList_run rfl (.slice om 512 cm) (by simp [go_sem, hcell]) ?_
  simp only [Act.put, List.setIfInBounds_toArray, List.set_cons_zero, List.set_cons_succ]
  refine wpList_call rfl (by simp [go_sem]) ((kt.out).mono ?_)
  rintro e w7 ⟨rfl, hX7⟩
  refine ⟨_, rfl, ?_⟩
  simp only [Act.put, List.setIfInBounds_toArray, List.set_cons_zero, List.set_cons_succ]
  have HR7 := hideit (HR1.out.carry hX7)
  have HE7 := hideit (Ext.trans HE1.out hX7)
  clear kt HR1 HE1 hX7 hcell hw
  refine wpList_store_mid rfl 25 (.tmp 4) (.tmp 21) rfl _ 0 (row 32 (yv R)).toArray rfl rfl (by rw [row_size]; exact HR7.out.there) (by rw [row_size]; exact info24) (row_one fun _ _ => rfl) ?_
  have res8 := hideit (HR7.out.cells (g' := yv R))
  have hE8 := hideit (below_setCells w.heap.size (Nat.le_refl _) (row 32 (yv R)) 0 w7 HE7.out)
  rw [show (row 32 (yv R)).toArray.toList = row 32 (yv R) from rfl]
  generalize w7.setCells w.heap.size 0 (row 32 (yv R)) = w8 at *
  clear HR7 HE7
  simp only [Act.put]
  go_wp2
  exact bodyPost_ret (ret_row2 Tryd.results22 rfl res8.out Tryd.underlying25 rfl info24) rfl ⟨rfl, hE8.out⟩
end Go.Proofs.YtapmheocllicnaaDoor

namespace Go.Proofs.YtapmheocllicnaaDoor
open Go.RowKit Go.BigFrame
/-- each node below the k-th stands in the next one -/
def Jn (k x : Nat) (bs : Nat → Nat → BitVec 8) : Prop := ∀ i, 1 ≤ i → i < k → ∀ j, j < 32 → bs i (32 * plc x i + j) = nodeF (BitVec.ofNat 8 (i - 1)) (bs (i - 1)) 512 j
theorem cutM (a : Addr) (cap p : Nat) (hp : p < 16) (h : 512 ≤ cap) (X : World) : Sem.run Tryd.prog (Instr.sliceAt 23 (.slice (some a) 512 cap) (some (.int .i64 (32 * (p : Int)))) (some (.int .i64 (32 * (p : Int) + 32))) none) X = .ok (.slice (some (a.add (32 * p))) 32 (cap - 32 * p)) X := by
  have e : (32 * (p : Int)).toNat = 32 * p := by omega
  have e2 : (32 * (p : Int) + 32).toNat = 32 * p + 32 := by omega
  have h1 : 0 ≤ 32 * (p : Int) ∧ 32 * (p : Int) ≤ 32 * (p : Int) + 32 := by omega
  have h2 : ¬ cap = 32 * p := by omega
  have h3 : 0 ≤ 32 * (p : Int) + 32 ∧ 32 * (p : Int) + 32 ≤ (cap : Int) := by omega
  have h4 : 32 * p + 32 - 32 * p = 32 := by omega
  simp [go_sem, h1, h2, h3, h4, e, e2]
set_option maxRecDepth 20000 in
set_option maxHeartbeats 2000000 in
theorem rjoined_any (x k : Nat) (hx : x < 4096) (hk1 : 1 ≤ k) (hk3 : k ≤ 3) (pv : Value) (us : Nat → Value) (ls : Nat → Nat) (bs : Nat → Nat → BitVec 8) (w : World) (hP : Parts pv k us ls bs w) (hls : ∀ i, i < k → ls i = 512) :
    Calls Tryd.prog 39 #[.int .i64 (x : Int), pv] w fun e w' => ((Jn k x bs ∧ e = .returned (.bool true)) ∨ (¬ Jn k x bs ∧ e = .returned (.bool false))) ∧ Ext w w' := by
  obtain ⟨ov, cap, rfl⟩ := hP.form
  obtain ⟨pa, rfl, hal⟩ : ∃ a, ov = some a ∧ LieAt a k us w := by
    rcases hP.1 with ⟨h, h0⟩ | ⟨a, cap', h, _, h3⟩
    · omega
    · injection h with e1 e2 e3
      exact ⟨a, e1, h3⟩
  have hz := zero24
  have each : ∀ i, i < k → ∃ a c, us i = .slice (some a) 512 c ∧ 512 ≤ c ∧ LieAt a 512 (yv (bs i)) w := fun i hi => by
    have h := hP.2 i hi
    rw [hls i hi] at h
    rcases h with ⟨_, h⟩ | ⟨a, c, h1, h2, h3⟩
    · omega
    · exact ⟨a, c, h1, h2, h3⟩
  replace each := hideit each
  replace hal := hideit hal
  clear hP hls
  go_enter Tryd.func39, Tryd.ntmps39
  go_wp2
  go_loopw [0, 5] (fun yv' tv X => ∃ t y : Nat, 1 ≤ t ∧ t ≤ k ∧ y = x / 16 ^ (t - 1) ∧ yv' = .int .i64 (y : Int) ∧ tv = .int .i64 (t : Int) ∧ Jn t x bs ∧ Ext w X) (fun _ tv _ => k - (intOf tv).toNat)
  case atStart => exact ⟨1, x, Nat.le_refl _, hk1, by simp, rfl, rfl, fun i h1 h2 => absurd h1 (by omega), Ext.refl _⟩
  case round =>
    obtain ⟨t, y, ht1, htk, hy, rfl, rfl, hJ, hE⟩ := hrel
    replace hE := hideit hE
    by_cases hlt : t < k
    · obtain ⟨y2, hy2⟩ : ∃ y2, y2 = y / 16 := ⟨_, rfl⟩
      obtain ⟨s, hs⟩ : ∃ s, s = t - 1 := ⟨_, rfl⟩
      obtain ⟨p, hp⟩ : ∃ p, p = y2 % 16 := ⟨_, rfl⟩
      have hyx : y ≤ x := by rw [hy]; exact Nat.div_le_self _ _
      have hpow : y2 = x / 16 ^ t := by
        rw [hy2, hy, Nat.div_div_eq_div_mul, ← Nat.pow_succ]
        congr 2
        omega
      have hpp : p = plc x t := by rw [hp, hpow]; rfl
      have hp16 : p < 16 := by omega
      have hts : t = s + 1 := by omega
      have hsk : s < k := by omega
      have eq0 : Int.tdiv (y : Int) 16 = (y2 : Int) := by rw [hy2, Int.tdiv_eq_ediv_of_nonneg (by omega)]; omega
      have ew0 : IntKind.i64.wrap (y2 : Int) = (y2 : Int) := by rw [IntKind.wrap_i64]; omega
      have ep : Int.tmod (y2 : Int) 16 = (p : Int) := by rw [hp, Int.tmod_eq_emod_of_nonneg (by omega)]; omega
      have em : IntKind.i64.wrap (32 * (p : Int)) = 32 * (p : Int) := by rw [IntKind.wrap_i64]; omega
      have ea : IntKind.i64.wrap (32 * (p : Int) + 32) = 32 * (p : Int) + 32 := by rw [IntKind.wrap_i64]; omega
      have ws : IntKind.i64.wrap ((t : Int) - 1) = (s : Int) := by rw [IntKind.wrap_i64]; omega
      have t0 : (0 : Int) ≤ (t : Int) := by omega
      have t1 : (t : Int) < (k : Int) := by omega
      have s1 : (s : Int) < (k : Int) := by omega
      have sc : ((s : Nat) : Int) % 256 = ((BitVec.ofNat 8 s).toNat : Int) := by rw [BitVec.toNat_ofNat]; omega
      obtain ⟨pj, pjc, hpu, hpc, hpl⟩ := each.out s hsk
      obtain ⟨qj, qjc, hqu, hqc, hql⟩ := each.out t hlt
      have cs := (hal.out.carry hE.out).1 s hsk
      rw [hpu] at cs
      obtain ⟨G, hG⟩ : ∃ G, G = nodeF (BitVec.ofNat 8 s) (bs s) 512 := ⟨_, rfl⟩
      have kn := rnode_any (s : Int) (BitVec.ofNat 8 s) sc (.slice (some pj) 512 pjc) 512 (bs s) wr (.inr ⟨pj, pjc, rfl, hpc, hpl.carry hE.out⟩) (by decide)
      rw [← hG] at kn
      replace kn := hideit kn
      replace cs := hideit cs
      replace hG := hideit hG
      replace eq0 := hideit eq0
      replace ew0 := hideit ew0
      replace ep := hideit ep
      replace em := hideit em
      replace ea := hideit ea
      replace ws := hideit ws
      replace hpow := hideit hpow
      replace hpp := hideit hpp
      replace hJ := hideit hJ
      replace hql := hideit hql
      replace hqu := hideit hqu
      replace hts := hideit hts
      clear hpu hpl hpc hs hp hy hy2 hyx sc
      go_upto_region 4 with (fail)
      refine wp_region_lit ?_
      refine wpList_run rfl (.int .i64 (y : Int)) (by simp [go_sem]) ?_
      simp only [Act.put, List.setIfInBounds_toArray, List.set_cons_zero, List.set_cons_succ]
      refine wpList_run rfl (.int .i64 (y2 : Int)) (by simp [go_sem, eq0.out, ew0.out]) ?_
      simp only [Act.put, List.setIfInBounds_toArray, List.set_cons_zero, List.set_cons_succ]
      go_upto_region 5 with (fail)
      refine wp_region_lit ?_
      refine wpList_run rfl (.int .i64 (t : Int)) (by simp [go_sem]) ?_
      simp only [Act.put, List.setIfInBounds_toArray, List.set_cons_zero, List.set_cons_succ]
      refine wpList_run rfl (.int .i64 (s : Int)) (by simp [go_sem, ws.out]) ?_
      simp only [Act.put, List.setIfInBounds_toArray, List.set_cons_zero, List.set_cons_succ]
      refine wpList_run rfl (.slice (some pa) k cap) (by simp [go_sem]) ?_
      simp only [Act.put, List.setIfInBounds_toArray, List.set_cons_zero, List.set_cons_succ]
      refine wpList_run rfl (.int .i64 (t : Int)) (by simp [go_sem]) ?_
      simp only [Act.put, List.setIfInBounds_toArray, List.set_cons_zero, List.set_cons_succ]
      refine wpList_run rfl (.int .i64 (s : Int)) (by simp [go_sem, ws.out]) ?_
      simp only [Act.put, List.setIfInBounds_toArray, List.set_cons_zero, List.set_cons_succ]
      refine wpList_run rfl (.pointer (some (pa.add s))) (by simp [go_sem, s1]) ?_
      simp only [Act.put, List.setIfInBounds_toArray, List.set_cons_zero, List.set_cons_succ]
      refine wpList_run rfl (.slice (some pj) 512 pjc) (by simp [go_sem, cs.out]) ?_
      simp only [Act.put, List.setIfInBounds_toArray, List.set_cons_zero, List.set_cons_succ]
      refine wpList_call rfl (by simp [go_sem]) ((kn.out).mono ?_)
      rintro e w2 ⟨rfl, hX2⟩
      refine ⟨_, rfl, ?_⟩
      simp only [Act.put, List.setIfInBounds_toArray, List.set_cons_zero, List.set_cons_succ]
      have hXa : Ext w2 (w2.alloc (.cells (row 32 (yv fun _ => 0#8)).toArray 25)) := (Below.refl _ _).alloc (Nat.le_refl _) _
      have Ca := RowAt.new w2 32 (yv fun _ => 0#8) 25
      have hYa := Ext.trans hX2 (below_setCells (w := w2) w2.heap.size (Nat.le_refl _) (row 32 (yv G)) 0 _ hXa)
      have HG := hideit (Ca.cells (g' := yv G))
      have HE2 := hideit (Ext.trans hE.out hYa)
      refine wpList_to rfl (.pointer (some ⟨w2.heap.size, 0, none⟩)) (w2.alloc (.cells (row 32 (yv fun _ => 0#8)).toArray 25)) (by simp [go_sem, hz]) ?_
      simp only [Act.put, List.setIfInBounds_toArray, List.set_cons_zero, List.set_cons_succ]
      refine wpList_store_mid rfl 25 (.tmp 6) (.tmp 23) rfl _ 0 (row 32 (yv G)).toArray rfl rfl (by rw [row_size]; exact Ca.there) (by rw [row_size]; exact info24) (row_one fun _ _ => rfl) ?_
      rw [show (row 32 (yv G)).toArray.toList = row 32 (yv G) from rfl]
      generalize (w2.alloc (.cells (row 32 (yv fun _ => 0#8)).toArray 25)).setCells w2.heap.size 0 (row 32 (yv G)) = w3 at *
      generalize w2.heap.size = gb at *
      clear hXa Ca hYa hX2 kn cs hE
      simp only [Act.put]
      go_upto_region 6 with (fail)
      refine wp_region_lit ?_
      refine wpList_run rfl (.int .i64 (y2 : Int)) (by simp [go_sem]) ?_
      simp only [Act.put, List.setIfInBounds_toArray, List.set_cons_zero, List.set_cons_succ]
      refine wpList_run rfl (.int .i64 (p : Int)) (by simp [go_sem, ep.out]) ?_
      simp only [Act.put, List.setIfInBounds_toArray, List.set_cons_zero, List.set_cons_succ]
      refine wpList_run rfl (.int .i64 (32 * (p : Int))) (by simp [go_sem, em.out]) ?_
      simp only [Act.put, List.setIfInBounds_toArray, List.set_cons_zero, List.set_cons_succ]
      go_upto_region 7 with (fail)
      clear eq0 ew0 ep em ws
      have E8 := hideit (Ext.trans HE2.out (Ext.refl w3).draw)
      have H8 := hideit HG.out.drew
      obtain ⟨z1, hz1⟩ : ∃ z1, z1 = bstr 32 (fun j => ((bs t (32 * p + j)).toNat : Int)) := ⟨_, rfl⟩
      obtain ⟨z2, hz2⟩ : ∃ z2, z2 = bstr 32 (fun j => ((G j).toNat : Int)) := ⟨_, rfl⟩
      have hss : (z1.toList == z2.toList) = eqN 32 (fun j => bs t (32 * p + j)) G := by rw [hz1, hz2]; exact str_beq 32 (fun j => bs t (32 * p + j)) G
      have cp : ∀ X, Ext w3.drew X → (convert 23 9 (.slice (some (qj.add (32 * p))) 32 (qjc - 32 * p))).run Tryd.prog X = .ok (.string z1) X := fun X hX => by
        rw [hz1]
        exact convV _ _ (fun j => bs t (32 * p + j)) X (.inr ⟨_, _, rfl, by omega, lie_at (hql.out.carry (Ext.trans E8.out hX)) (32 * p) 32 (by omega)⟩)
      have cq : ∀ X, Ext w3.drew X → (convert 23 9 (.slice (some ⟨gb, 0, none⟩) 32 32)).run Tryd.prog X = .ok (.string z2) X := fun X hX => by
        rw [hz2]
        exact convV _ _ G X ((H8.out.carry hX).bv 32 (Nat.le_refl _))
      have hcut := cutM qj qjc p hp16 hqc
      clear hz1 hz2 HG HE2
      cases heq : eqN 32 (fun j => bs t (32 * p + j)) G with
      | true =>
        rw [heq] at hss
        refine wp_region_lad (fun X => Ext w3.drew X) [(false, 0), (false, 1), (false, 2), (false, 3), (false, 4), (false, 5), (false, 6), (false, 7), (false, 8), (false, 9), (false, 10), (false, 11)] (by kernel_rfl) (by kernel_rfl) (by decide +kernel) (by decide +kernel) (by decide +kernel) (by decide +kernel) (Ext.refl _) ?_
        refine wpX_f _ (.slice (some pa) k cap) rfl rfl (fun X _ => by simp [go_sem]) ?_
        simp only [List.getElem_toArray, List.getElem_cons_zero, Act.put, List.setIfInBounds_toArray, List.set_cons_zero, List.set_cons_succ]
        refine wpX_f _ (.int .i64 (t : Int)) rfl rfl (fun X _ => by simp [go_sem]) ?_
        simp only [List.getElem_toArray, List.getElem_cons_zero, List.getElem_cons_succ, Act.put, List.setIfInBounds_toArray, List.set_cons_zero, List.set_cons_succ]
        refine wpX_f _ (.pointer (some (pa.add t))) rfl rfl (fun X _ => by simp [go_sem, t1]) ?_
        simp only [List.getElem_toArray, List.getElem_cons_zero, List.getElem_cons_succ, Act.put, List.setIfInBounds_toArray, List.set_cons_zero, List.set_cons_succ]
        refine wpX_f _ (.slice (some qj) 512 qjc) rfl rfl (fun X hX => by have e := (hal.out.carry (Ext.trans E8.out hX)).1 t hlt; rw [hqu.out] at e; simp [go_sem, e]) ?_
        simp only [List.getElem_toArray, List.getElem_cons_zero, List.getElem_cons_succ, Act.put, List.setIfInBounds_toArray, List.set_cons_zero, List.set_cons_succ]
        refine wpX_f _ (.int .i64 (32 * (p : Int))) rfl rfl (fun X _ => by simp [go_sem]) ?_
        simp only [List.getElem_toArray, List.getElem_cons_zero, List.getElem_cons_succ, Act.put, List.setIfInBounds_toArray, List.set_cons_zero, List.set_cons_succ]
        refine wpX_f _ (.int .i64 (32 * (p : Int))) rfl rfl (fun X _ => by simp [go_sem]) ?_
        simp only [List.getElem_toArray, List.getElem_cons_zero, List.getElem_cons_succ, Act.put, List.setIfInBounds_toArray, List.set_cons_zero, List.set_cons_succ]
        refine wpX_f _ (.int .i64 (32 * (p : Int) + 32)) rfl rfl (fun X _ => by simp [go_sem, ea.out]) ?_
        simp only [List.getElem_toArray, List.getElem_cons_zero, List.getElem_cons_succ, Act.put, List.setIfInBounds_toArray, List.set_cons_zero, List.set_cons_succ]
        refine wpX_f _ (.slice (some (qj.add (32 * p))) 32 (qjc - 32 * p)) rfl rfl (fun X _ => by simp [go_sem, hcut]) ?_
        simp only [List.getElem_toArray, List.getElem_cons_zero, List.getElem_cons_succ, Act.put, List.setIfInBounds_toArray, List.set_cons_zero, List.set_cons_succ]
        refine wpX_f _ (.string z1) rfl rfl (fun X hX => by have e := cp X hX; simp [go_sem, e]) ?_
        simp only [List.getElem_toArray, List.getElem_cons_zero, List.getElem_cons_succ, Act.put, List.setIfInBounds_toArray, List.set_cons_zero, List.set_cons_succ]
        refine wpX_f _ (.slice (some ⟨gb, 0, none⟩) 32 32) rfl rfl (fun X _ => by simp [go_sem, cutR25]) ?_
        simp only [List.getElem_toArray, List.getElem_cons_zero, List.getElem_cons_succ, Act.put, List.setIfInBounds_toArray, List.set_cons_zero, List.set_cons_succ]
        refine wpX_f _ (.string z2) rfl rfl (fun X hX => by have e := cq X hX; simp [go_sem, e]) ?_
        simp only [List.getElem_toArray, List.getElem_cons_zero, List.getElem_cons_succ, Act.put, List.setIfInBounds_toArray, List.set_cons_zero, List.set_cons_succ]
        refine wpX_f _ (.bool false) rfl rfl (fun X _ => by simp [go_sem, hss]) ?_
        simp only [List.getElem_toArray, List.getElem_cons_zero, List.getElem_cons_succ, Act.put, List.setIfInBounds_toArray, List.set_cons_zero, List.set_cons_succ]
        refine wpX_nil ?_
        clear cp cq hcut
        have hJ2 : Jn (t + 1) x bs := fun i h1 h2 j hj => by
          rcases (by omega : i < t ∨ i = t) with h | rfl
          · exact hJ.out i h1 h j hj
          · have e := eqN_iff.1 heq j hj
            rw [← hpp.out, show i - 1 = s by have := hts.out; omega, ← hG.out]
            exact e
        replace hJ2 := hideit hJ2
        go_wp2
        exact ⟨⟨t + 1, y2, by omega, by omega, by rw [Nat.add_sub_cancel]; exact hpow.out, rfl, by go_num, hJ2.out, E8.out⟩, by simp [intOf]; omega⟩
      | false =>
        rw [heq] at hss
        refine wp_region_lad (fun X => Ext w3.drew X) [(false, 0), (false, 1), (false, 2), (false, 3), (false, 4), (false, 5), (false, 6), (false, 7), (false, 8), (false, 9), (false, 10), (false, 11)] (by kernel_rfl) (by kernel_rfl) (by decide +kernel) (by decide +kernel) (by decide +kernel) (by decide +kernel) (Ext.refl _) ?_
        refine wpX_f _ (.slice (some pa) k cap) rfl rfl (fun X _ => by simp [go_sem]) ?_
        simp only [List.getElem_toArray, List.getElem_cons_zero, Act.put, List.setIfInBounds_toArray, List.set_cons_zero, List.set_cons_succ]
        refine wpX_f _ (.int .i64 (t : Int)) rfl rfl (fun X _ => by simp [go_sem]) ?_
        simp only [List.getElem_toArray, List.getElem_cons_zero, List.getElem_cons_succ, Act.put, List.setIfInBounds_toArray, List.set_cons_zero, List.set_cons_succ]
        refine wpX_f _ (.pointer (some (pa.add t))) rfl rfl (fun X _ => by simp [go_sem, t1]) ?_
        simp only [List.getElem_toArray, List.getElem_cons_zero, List.getElem_cons_succ, Act.put, List.setIfInBounds_toArray, List.set_cons_zero, List.set_cons_succ]
        refine wpX_f _ (.slice (some qj) 512 qjc) rfl rfl (fun X hX => by have e := (hal.out.carry (Ext.trans E8.out hX)).1 t hlt; rw [hqu.out] at e; simp [go_sem, e]) ?_
        simp only [List.getElem_toArray, List.getElem_cons_zero, List.getElem_cons_succ, Act.put, List.setIfInBounds_toArray, List.set_cons_zero, List.set_cons_succ]
        refine wpX_f _ (.int .i64 (32 * (p : Int))) rfl rfl (fun X _ => by simp [go_sem]) ?_
        simp only [List.getElem_toArray, List.getElem_cons_zero, List.getElem_cons_succ, Act.put, List.setIfInBounds_toArray, List.set_cons_zero, List.set_cons_succ]
        refine wpX_f _ (.int .i64 (32 * (p : Int))) rfl rfl (fun X _ => by simp [go_sem]) ?_
        simp only [List.getElem_toArray, List.getElem_cons_zero, List.getElem_cons_succ, Act.put, List.setIfInBounds_toArray, List.set_cons_zero, List.set_cons_succ]
        refine wpX_f _ (.int .i64 (32 * (p : Int) + 32)) rfl rfl (fun X _ => by simp [go_sem, ea.out]) ?_
        simp only [List.getElem_toArray, List.getElem_cons_zero, List.getElem_cons_succ, Act.put, List.setIfInBounds_toArray, List.set_cons_zero, List.set_cons_succ]
        refine wpX_f _ (.slice (some (qj.add (32 * p))) 32 (qjc - 32 * p)) rfl rfl (fun X _ => by simp [go_sem, hcut]) ?_
        simp only [List.getElem_toArray, List.getElem_cons_zero, List.getElem_cons_succ, Act.put, List.setIfInBounds_toArray, List.set_cons_zero, List.set_cons_succ]
        refine wpX_f _ (.string z1) rfl rfl (fun X hX => by have e := cp X hX; simp [go_sem, e]) ?_
        simp only [List.getElem_toArray, List.getElem_cons_zero, List.getElem_cons_succ, Act.put, List.setIfInBounds_toArray, List.set_cons_zero, List.set_cons_succ]
        refine wpX_f _ (.slice (some ⟨gb, 0, none⟩) 32 32) rfl rfl (fun X _ => by simp [go_sem, cutR25]) ?_
        simp only [List.getElem_toArray, List.getElem_cons_zero, List.getElem_cons_succ, Act.put, List.setIfInBounds_toArray, List.set_cons_zero, List.set_cons_succ]
        refine wpX_f _ (.string z2) rfl rfl (fun X hX => by have e := cq X hX; simp [go_sem, e]) ?_
        simp only [List.getElem_toArray, List.getElem_cons_zero, List.getElem_cons_succ, Act.put, List.setIfInBounds_toArray, List.set_cons_zero, List.set_cons_succ]
        refine wpX_f _ (.bool true) rfl rfl (fun X _ => by simp [go_sem, hss]) ?_
        simp only [List.getElem_toArray, List.getElem_cons_zero, List.getElem_cons_succ, Act.put, List.setIfInBounds_toArray, List.set_cons_zero, List.set_cons_succ]
        refine wpX_nil ?_
        clear cp cq hcut
        go_wp2
        go_ret
        refine ⟨.inr ⟨fun h => ?_, rfl⟩, E8.out⟩
        have : eqN 32 (fun j => bs t (32 * p + j)) G = true := eqN_iff.2 fun j hj => by
          have e := h t ht1 hlt j hj
          rw [← hpp.out, show t - 1 = s by have := hts.out; omega, ← hG.out] at e
          exact e
        rw [heq] at this
        cases this
    · obtain rfl : t = k := by omega
      have t1 : ¬ (t : Int) < (t : Int) := by omega
      replace hJ := hideit hJ
      go_wp2
      go_ret
      exact ⟨.inl ⟨hJ.out, rfl⟩, hE.out⟩
end Go.Proofs.YtapmheocllicnaaDoor

namespace Go.Proofs.YtapmheocllicnaaDoor
open Go.RowKit Go.BigFrame
set_option maxRecDepth 20000 in
set_option maxHeartbeats 2000000 in
theorem rcheck_no (n i : Int) (k : Nat) (leaf root : Nat → BitVec 8) (pv : Value) (us : Nat → Value) (ls : Nat → Nat) (w : World) (hP : PartsW pv k us ls w) (hk : k ≤ 9223372036854775807) (hno : isP n k ls = false) :
    Calls Tryd.prog 25 #[.int .i64 n, .int .i64 i, .agg (row 32 (yv leaf)).toArray, pv, .agg (row 32 (yv root)).toArray] w fun e w' => e = .returned (.int .i64 1) ∧ Ext w w' := by
  obtain ⟨ov, cap, rfl⟩ := hP.form
  have hz := zero24
  have HL0 := RowAt.new w 32 (yv leaf) 25
  have HE0 : Ext w (w.alloc (.cells (row 32 (yv leaf)).toArray 25)) := (Below.refl _ _).alloc (Nat.le_refl _) _
  have HX0 : Ext (w.alloc (.cells (row 32 (yv leaf)).toArray 25)) ((w.alloc (.cells (row 32 (yv leaf)).toArray 25)).alloc (.cells (row 32 (yv root)).toArray 25)) := (Below.refl _ _).alloc (Nat.le_refl _) _
  have HT := RowAt.new (w.alloc (.cells (row 32 (yv leaf)).toArray 25)) 32 (yv root) 25
  rw [show (w.alloc (.cells (row 32 (yv leaf)).toArray 25)).heap.size = w.heap.size + 1 by simp] at HT
  replace HT := hideit HT
  have HL := hideit (HL0.carry HX0)
  have HE1 := Ext.trans HE0 HX0
  have kr := rroot_no n k _ us ls _ (hP.ext HE1) hk hno
  clear hP hno
  replace kr := hideit kr
  have HE := hideit HE1
  clear HL0 HE0 HX0 HE1
  go_enter Tryd.func25, Tryd.ntmps25
  go_upto_region 1 with (fail)
  generalize (w.alloc (.cells (row 32 (yv leaf)).toArray 25)).alloc (.cells (row 32 (yv root)).toArray 25) = w4 at *
  refine wp_region_lit ?_
  refine wpList_run rfl (.int .i64 n) (by simp [go_sem]) ?_
  simp only [Act.put, List.setIfInBounds_toArray, List.set_cons_zero, List.set_cons_succ]
  refine wpList_run rfl (.slice ov k cap) (by simp [go_sem]) ?_
  simp only [Act.put, List.setIfInBounds_toArray, List.set_cons_zero, List.set_cons_succ]
  refine wpList_call rfl (by simp [go_sem]) ((kr.out).mono ?_)
  rintro e w5 ⟨rfl, hX5⟩
  refine ⟨_, rfl, ?_⟩
  simp only [Act.put, List.setIfInBounds_toArray, List.set_cons_zero, List.set_cons_succ]
  refine wpList_run rfl (.tuple #[.agg (row 32 (yv fun _ => 0#8)).toArray, .int .i64 1]) (by simp [go_sem]) ?_
  simp only [Act.put, List.setIfInBounds_toArray, List.set_cons_zero, List.set_cons_succ]
  refine wpList_run rfl (.agg (row 32 (yv fun _ => 0#8)).toArray) (by simp [go_sem]) ?_
  simp only [Act.put, List.setIfInBounds_toArray, List.set_cons_zero, List.set_cons_succ]
  refine wpList_run rfl (.int .i64 1) (by simp [go_sem]) ?_
  simp only [Act.put, List.setIfInBounds_toArray, List.set_cons_zero, List.set_cons_succ]
  have hXa : Ext w5 (w5.alloc (.cells (row 32 (yv fun _ => 0#8)).toArray 25)) := (Below.refl _ _).alloc (Nat.le_refl _) _
  have Ca := RowAt.new w5 32 (yv fun _ => 0#8) 25
  have hYa := Ext.trans hX5 (below_setCells (w := w5) w5.heap.size (Nat.le_refl _) (row 32 (yv (fun _ => 0#8))) 0 _ hXa)
  have HG := hideit (Ca.cells (g' := yv (fun _ => 0#8)))
  have HE2 := hideit (Ext.trans HE.out hYa)
  have HL2 := hideit (HL.out.carry hYa)
  have HT2 := hideit (HT.out.carry hYa)
  refine wpList_to rfl (.pointer (some ⟨w5.heap.size, 0, none⟩)) (w5.alloc (.cells (row 32 (yv fun _ => 0#8)).toArray 25)) (by simp [go_sem, hz]) ?_
  simp only [Act.put, List.setIfInBounds_toArray, List.set_cons_zero, List.set_cons_succ]
  refine wpList_store_mid rfl 25 (.tmp 11) (.tmp 18) rfl _ 0 (row 32 (yv fun _ => 0#8)).toArray rfl rfl (by rw [row_size]; exact Ca.there) (by rw [row_size]; exact info24) (row_one fun _ _ => rfl) ?_
  rw [show (row 32 (yv fun _ => 0#8)).toArray.toList = row 32 (yv (fun _ => 0#8)) from rfl]
  generalize (w5.alloc (.cells (row 32 (yv fun _ => 0#8)).toArray 25)).setCells w5.heap.size 0 (row 32 (yv (fun _ => 0#8))) = w3 at *
  generalize w5.heap.size = rb at *
  clear hXa Ca hYa hX5 kr HE HL HT
  simp only [Act.put]
  go_wp2
  go_ret
  exact ⟨rfl, HE2.out⟩
set_option maxRecDepth 20000 in
set_option maxHeartbeats 2000000 in
theorem rcheck_place (n k : Nat) (i : Int) (h1 : 1 ≤ n) (h2 : n ≤ 4096) (hkN : k = lvN n) (leaf root : Nat → BitVec 8) (pv : Value) (us : Nat → Value) (ls : Nat → Nat) (bs : Nat → Nat → BitVec 8) (w : World) (hP : Parts pv k us ls bs w) (hls : ∀ i, i < k → ls i = 512) (hi : i < 0 ∨ (n : Int) ≤ i) :
    Calls Tryd.prog 25 #[.int .i64 (n : Int), .int .i64 i, .agg (row 32 (yv leaf)).toArray, pv, .agg (row 32 (yv root)).toArray] w fun e w' => e = .returned (.int .i64 1) ∧ Ext w w' := by
  obtain ⟨ov, cap, rfl⟩ := hP.form
  have hz := zero24
  have HL0 := RowAt.new w 32 (yv leaf) 25
  have HE0 : Ext w (w.alloc (.cells (row 32 (yv leaf)).toArray 25)) := (Below.refl _ _).alloc (Nat.le_refl _) _
  have HX0 : Ext (w.alloc (.cells (row 32 (yv leaf)).toArray 25)) ((w.alloc (.cells (row 32 (yv leaf)).toArray 25)).alloc (.cells (row 32 (yv root)).toArray 25)) := (Below.refl _ _).alloc (Nat.le_refl _) _
  have HT := RowAt.new (w.alloc (.cells (row 32 (yv leaf)).toArray 25)) 32 (yv root) 25
  rw [show (w.alloc (.cells (row 32 (yv leaf)).toArray 25)).heap.size = w.heap.size + 1 by simp] at HT
  replace HT := hideit HT
  have HL := hideit (HL0.carry HX0)
  have HE1 := Ext.trans HE0 HX0
  have kr := rroot_ok n k h1 h2 hkN _ us ls bs _ (hP.ext HE1) hls
  obtain ⟨R, hR⟩ : ∃ R, R = rootF n (nodeF (BitVec.ofNat 8 (k - 1)) (bs (k - 1)) 512) := ⟨_, rfl⟩
  rw [← hR] at kr
  clear hP hls hR
  replace kr := hideit kr
  have HE := hideit HE1
  clear HL0 HE0 HX0 HE1
  go_enter Tryd.func25, Tryd.ntmps25
  go_upto_region 1 with (fail)
  generalize (w.alloc (.cells (row 32 (yv leaf)).toArray 25)).alloc (.cells (row 32 (yv root)).toArray 25) = w4 at *
  refine wp_region_lit ?_
  refine wpList_run rfl (.int .i64 (n : Int)) (by simp [go_sem]) ?_
  simp only [Act.put, List.setIfInBounds_toArray, List.set_cons_zero, List.set_cons_succ]
  refine wpList_run rfl (.slice ov k cap) (by simp [go_sem]) ?_
  simp only [Act.put, List.setIfInBounds_toArray, List.set_cons_zero, List.set_cons_succ]
  refine wpList_call rfl (by simp [go_sem]) ((kr.out).mono ?_)
  rintro e w5 ⟨rfl, hX5⟩
  refine ⟨_, rfl, ?_⟩
  simp only [Act.put, List.setIfInBounds_toArray, List.set_cons_zero, List.set_cons_succ]
  refine wpList_run rfl (.tuple #[.agg (row 32 (yv R)).toArray, .int .i64 0]) (by simp [go_sem]) ?_
  simp only [Act.put, List.setIfInBounds_toArray, List.set_cons_zero, List.set_cons_succ]
  refine wpList_run rfl (.agg (row 32 (yv R)).toArray) (by simp [go_sem]) ?_
  simp only [Act.put, List.setIfInBounds_toArray, List.set_cons_zero, List.set_cons_succ]
  refine wpList_run rfl (.int .i64 0) (by simp [go_sem]) ?_
  simp only [Act.put, List.setIfInBounds_toArray, List.set_cons_zero, List.set_cons_succ]
  have hXa : Ext w5 (w5.alloc (.cells (row 32 (yv fun _ => 0#8)).toArray 25)) := (Below.refl _ _).alloc (Nat.le_refl _) _
  have Ca := RowAt.new w5 32 (yv fun _ => 0#8) 25
  have hYa := Ext.trans hX5 (below_setCells (w := w5) w5.heap.size (Nat.le_refl _) (row 32 (yv R)) 0 _ hXa)
  have HG := hideit (Ca.cells (g' := yv R))
  have HE2 := hideit (Ext.trans HE.out hYa)
  have HL2 := hideit (HL.out.carry hYa)
  have HT2 := hideit (HT.out.carry hYa)
  refine wpList_to rfl (.pointer (some ⟨w5.heap.size, 0, none⟩)) (w5.alloc (.cells (row 32 (yv fun _ => 0#8)).toArray 25)) (by simp [go_sem, hz]) ?_
  simp only [Act.put, List.setIfInBounds_toArray, List.set_cons_zero, List.set_cons_succ]
  refine wpList_store_mid rfl 25 (.tmp 11) (.tmp 18) rfl _ 0 (row 32 (yv R)).toArray rfl rfl (by rw [row_size]; exact Ca.there) (by rw [row_size]; exact info24) (row_one fun _ _ => rfl) ?_
  rw [show (row 32 (yv R)).toArray.toList = row 32 (yv R) from rfl]
  generalize (w5.alloc (.cells (row 32 (yv fun _ => 0#8)).toArray 25)).setCells w5.heap.size 0 (row 32 (yv R)) = w3 at *
  generalize w5.heap.size = rb at *
  clear hXa Ca hYa hX5 kr HE HL HT
  simp only [Act.put]
  by_cases i0 : i < 0
  · clear hi
    go_wp2
    go_ret
    exact ⟨rfl, HE2.out⟩
  · have i1 : (n : Int) ≤ i := by omega
    clear hi
    go_wp2
    go_ret
    exact ⟨rfl, HE2.out⟩
set_option maxRecDepth 20000 in
set_option maxHeartbeats 2000000 in
theorem rcheck_go (n x k : Nat) (h1 : 1 ≤ n) (h2 : n ≤ 4096) (hkN : k = lvN n) (hx : x < n) (leaf root : Nat → BitVec 8) (pv : Value) (us : Nat → Value) (ls : Nat → Nat) (bs : Nat → Nat → BitVec 8) (w : World) (hP : Parts pv k us ls bs w) (hls : ∀ i, i < k → ls i = 512) :
    Calls Tryd.prog 25 #[.int .i64 (n : Int), .int .i64 (x : Int), .agg (row 32 (yv leaf)).toArray, pv, .agg (row 32 (yv root)).toArray] w fun e w' =>
      (((eqN 32 (fun j => bs 0 (32 * plc x 0 + j)) leaf = true ∧ Jn k x bs ∧ eqN 32 (rootF n (nodeF (BitVec.ofNat 8 (k - 1)) (bs (k - 1)) 512)) root = true) ∧ e = .returned (.int .i64 0)) ∨
      (¬ (eqN 32 (fun j => bs 0 (32 * plc x 0 + j)) leaf = true ∧ Jn k x bs ∧ eqN 32 (rootF n (nodeF (BitVec.ofNat 8 (k - 1)) (bs (k - 1)) 512)) root = true) ∧ e = .returned (.int .i64 160))) ∧ Ext w w' := by
  have hk3 := lvN_pos n
  rw [← hkN] at hk3
  obtain ⟨ov, cap, rfl⟩ := hP.form
  obtain ⟨pa, rfl, hal⟩ : ∃ a, ov = some a ∧ LieAt a k us w := by
    rcases hP.1 with ⟨h, h0⟩ | ⟨a, cap', h, _, h3⟩
    · omega
    · injection h with e1 e2 e3
      exact ⟨a, e1, h3⟩
  obtain ⟨qj, qjc, hqu, hqc, hql⟩ : ∃ a c, us 0 = .slice (some a) 512 c ∧ 512 ≤ c ∧ LieAt a 512 (yv (bs 0)) w := by
    have h := hP.2 0 (by omega)
    rw [hls 0 (by omega)] at h
    rcases h with ⟨_, h⟩ | ⟨a, c, h1, h2, h3⟩
    · omega
    · exact ⟨a, c, h1, h2, h3⟩
  have hz := zero24
  have HL0 := RowAt.new w 32 (yv leaf) 25
  have HE0 : Ext w (w.alloc (.cells (row 32 (yv leaf)).toArray 25)) := (Below.refl _ _).alloc (Nat.le_refl _) _
  have HX0 : Ext (w.alloc (.cells (row 32 (yv leaf)).toArray 25)) ((w.alloc (.cells (row 32 (yv leaf)).toArray 25)).alloc (.cells (row 32 (yv root)).toArray 25)) := (Below.refl _ _).alloc (Nat.le_refl _) _
  have HT := RowAt.new (w.alloc (.cells (row 32 (yv leaf)).toArray 25)) 32 (yv root) 25
  rw [show (w.alloc (.cells (row 32 (yv leaf)).toArray 25)).heap.size = w.heap.size + 1 by simp] at HT
  replace HT := hideit HT
  have HL := hideit (HL0.carry HX0)
  have HE1 := Ext.trans HE0 HX0
  have kr := rroot_ok n k h1 h2 hkN _ us ls bs _ (hP.ext HE1) hls
  obtain ⟨R, hR⟩ : ∃ R, R = rootF n (nodeF (BitVec.ofNat 8 (k - 1)) (bs (k - 1)) 512) := ⟨_, rfl⟩
  rw [← hR] at kr ⊢
  obtain ⟨p, hp⟩ : ∃ p, p = plc x 0 := ⟨_, rfl⟩
  rw [← hp]
  have hp2 : p = x % 16 := by rw [hp]; unfold plc; simp
  have hp16 : p < 16 := by omega
  have ep : Int.tmod (x : Int) 16 = (p : Int) := by rw [hp2, Int.tmod_eq_emod_of_nonneg (by omega)]; omega
  have em : IntKind.i64.wrap (32 * (p : Int)) = 32 * (p : Int) := by rw [IntKind.wrap_i64]; omega
  have ea : IntKind.i64.wrap (32 * (p : Int) + 32) = 32 * (p : Int) + 32 := by rw [IntKind.wrap_i64]; omega
  have x0 : ¬ (x : Int) < 0 := by omega
  have x1 : ¬ (n : Int) ≤ (x : Int) := by omega
  have k0 : ¬ k = 0 := by omega
  have kj : ∀ X, Ext w X → Calls Tryd.prog 39 #[.int .i64 (x : Int), .slice (some pa) k cap] X fun e w' => ((Jn k x bs ∧ e = .returned (.bool true)) ∨ (¬ Jn k x bs ∧ e = .returned (.bool false))) ∧ Ext X w' := fun X hX => rjoined_any x k (by omega) hk3.1 hk3.2 _ us ls bs X (hP.ext hX) hls
  replace kj := hideit kj
  replace ep := hideit ep
  replace em := hideit em
  replace ea := hideit ea
  replace hal := hideit hal
  replace hqu := hideit hqu
  replace hql := hideit hql
  clear hP hls hR hp hp2 hkN
  obtain ⟨B, hB⟩ : ∃ B, B = Jn k x bs := ⟨_, rfl⟩
  rw [← hB] at kj ⊢
  obtain ⟨b0, hb0⟩ : ∃ b0, b0 = (fun j => bs 0 (32 * p + j)) := ⟨_, rfl⟩
  rw [← hb0]
  replace hb0 := hideit hb0
  clear hB
  obtain ⟨Ok, hOk⟩ : ∃ Ok, Ok = (eqN 32 b0 leaf = true ∧ B ∧ eqN 32 R root = true) := ⟨_, rfl⟩
  rw [← hOk]
  replace hOk := hideit hOk
  replace kr := hideit kr
  have HE := hideit HE1
  clear HL0 HE0 HX0 HE1
  go_enter Tryd.func25, Tryd.ntmps25
  go_upto_region 1 with (fail)
  generalize (w.alloc (.cells (row 32 (yv leaf)).toArray 25)).alloc (.cells (row 32 (yv root)).toArray 25) = w4 at *
  refine wp_region_lit ?_
  refine wpList_run rfl (.int .i64 (n : Int)) (by simp [go_sem]) ?_
  simp only [Act.put, List.setIfInBounds_toArray, List.set_cons_zero, List.set_cons_succ]
  refine wpList_run rfl (.slice (some pa) k cap) (by simp [go_sem]) ?_
  simp only [Act.put, List.setIfInBounds_toArray, List.set_cons_zero, List.set_cons_succ]
  refine wpList_call rfl (by simp [go_sem]) ((kr.out).mono ?_)
  rintro e w5 ⟨rfl, hX5⟩
  refine ⟨_, rfl, ?_⟩
  simp only [Act.put, List.setIfInBounds_toArray, List.set_cons_zero, List.set_cons_succ]
  refine wpList_run rfl (.tuple #[.agg (row 32 (yv R)).toArray, .int .i64 0]) (by simp [go_sem]) ?_
  simp only [Act.put, List.setIfInBounds_toArray, List.set_cons_zero, List.set_cons_succ]
  refine wpList_run rfl (.agg (row 32 (yv R)).toArray) (by simp [go_sem]) ?_
  simp only [Act.put, List.setIfInBounds_toArray, List.set_cons_zero, List.set_cons_succ]
  refine wpList_run rfl (.int .i64 0) (by simp [go_sem]) ?_
  simp only [Act.put, List.setIfInBounds_toArray, List.set_cons_zero, List.set_cons_succ]
  have hXa : Ext w5 (w5.alloc (.cells (row 32 (yv fun _ => 0#8)).toArray 25)) := (Below.refl _ _).alloc (Nat.le_refl _) _
  have Ca := RowAt.new w5 32 (yv fun _ => 0#8) 25
  have hYa := Ext.trans hX5 (below_setCells (w := w5) w5.heap.size (Nat.le_refl _) (row 32 (yv R)) 0 _ hXa)
  have HG := hideit (Ca.cells (g' := yv R))
  have HE2 := hideit (Ext.trans HE.out hYa)
  have HL2 := hideit (HL.out.carry hYa)
  have HT2 := hideit (HT.out.carry hYa)
  refine wpList_to rfl (.pointer (some ⟨w5.heap.size, 0, none⟩)) (w5.alloc (.cells (row 32 (yv fun _ => 0#8)).toArray 25)) (by simp [go_sem, hz]) ?_
  simp only [Act.put, List.setIfInBounds_toArray, List.set_cons_zero, List.set_cons_succ]
  refine wpList_store_mid rfl 25 (.tmp 11) (.tmp 18) rfl _ 0 (row 32 (yv R)).toArray rfl rfl (by rw [row_size]; exact Ca.there) (by rw [row_size]; exact info24) (row_one fun _ _ => rfl) ?_
  rw [show (row 32 (yv R)).toArray.toList = row 32 (yv R) from rfl]
  generalize (w5.alloc (.cells (row 32 (yv fun _ => 0#8)).toArray 25)).setCells w5.heap.size 0 (row 32 (yv R)) = w3 at *
  generalize w5.heap.size = rb at *
  clear hXa Ca hYa hX5 kr HE HL HT
  simp only [Act.put]
  go_upto_region 4 with (fail)
  refine wp_region_lit ?_
  refine wpList_run rfl (.int .i64 (x : Int)) (by simp [go_sem]) ?_
  simp only [Act.put, List.setIfInBounds_toArray, List.set_cons_zero, List.set_cons_succ]
  refine wpList_run rfl (.int .i64 (p : Int)) (by simp [go_sem, ep.out]) ?_
  simp only [Act.put, List.setIfInBounds_toArray, List.set_cons_zero, List.set_cons_succ]
  refine wpList_run rfl (.int .i64 (32 * (p : Int))) (by simp [go_sem, em.out]) ?_
  simp only [Act.put, List.setIfInBounds_toArray, List.set_cons_zero, List.set_cons_succ]
  go_upto_region 5 with (fail)
  have E8 := hideit (Ext.trans HE2.out (Ext.refl w3).draw)
  have H8 := hideit HG.out.drew
  have L8 := hideit HL2.out.drew
  have T8 := hideit HT2.out.drew
  clear HE2 HG HL2 HT2
  obtain ⟨z1, hz1⟩ : ∃ z1, z1 = bstr 32 (fun j => ((b0 j).toNat : Int)) := ⟨_, rfl⟩
  obtain ⟨z2, hz2⟩ : ∃ z2, z2 = bstr 32 (fun j => ((leaf j).toNat : Int)) := ⟨_, rfl⟩
  have hss : (z1.toList == z2.toList) = eqN 32 b0 leaf := by rw [hz1, hz2]; exact str_beq 32 b0 leaf
  have cp : ∀ X, Ext w3.drew X → (convert 23 9 (.slice (some (qj.add (32 * p))) 32 (qjc - 32 * p))).run Tryd.prog X = .ok (.string z1) X := fun X hX => by
    rw [hz1]
    have h := lie_at (hql.out.carry (Ext.trans E8.out hX)) (32 * p) 32 (by omega)
    rw [show (fun j => yv (bs 0) (32 * p + j)) = yv b0 by rw [hb0.out]; rfl] at h
    exact convV _ _ b0 X (.inr ⟨_, _, rfl, by omega, h⟩)
  have cq : ∀ X, Ext w3.drew X → (convert 23 9 (.slice (some ⟨w.heap.size, 0, none⟩) 32 32)).run Tryd.prog X = .ok (.string z2) X := fun X hX => by
    rw [hz2]
    exact convV _ _ leaf X ((L8.out.carry hX).bv 32 (Nat.le_refl _))
  have hcut := cutM qj qjc p hp16 hqc
  clear hz1 hz2
  cases heq : eqN 32 b0 leaf with
  | true =>
    rw [heq] at hss
    refine wp_region_lad (fun X => Ext w3.drew X) [(false, 0), (false, 1), (false, 2), (false, 3), (false, 4), (false, 5), (false, 6), (false, 7), (false, 8), (false, 9), (false, 10), (false, 11), (false, 12), (false, 13), (true, 14), (false, 15), (false, 16), (false, 17), (false, 18), (false, 19), (false, 20), (false, 21)] (by kernel_rfl) (by kernel_rfl) (by decide +kernel) (by decide +kernel) (by decide +kernel) (by decide +kernel) (Ext.refl _) ?_
    refine wpX_f _ (.slice (some pa) k cap) rfl rfl (fun X _ => by simp [go_sem]) ?_
    simp only [List.getElem_toArray, List.getElem_cons_zero, Act.put, List.setIfInBounds_toArray, List.set_cons_zero, List.set_cons_succ]
    refine wpX_f _ (.pointer (some pa)) rfl rfl (fun X _ => by simp [go_sem, k0]) ?_
    simp only [List.getElem_toArray, List.getElem_cons_zero, List.getElem_cons_succ, Act.put, List.setIfInBounds_toArray, List.set_cons_zero, List.set_cons_succ]
    refine wpX_f _ (.slice (some qj) 512 qjc) rfl rfl (fun X hX => by have e := (hal.out.carry (Ext.trans E8.out hX)).1 0 (by omega); rw [hqu.out] at e; simp [go_sem] at e; simp [go_sem, e]) ?_
    simp only [List.getElem_toArray, List.getElem_cons_zero, List.getElem_cons_succ, Act.put, List.setIfInBounds_toArray, List.set_cons_zero, List.set_cons_succ]
    refine wpX_f _ (.int .i64 (32 * (p : Int))) rfl rfl (fun X _ => by simp [go_sem]) ?_
    simp only [List.getElem_toArray, List.getElem_cons_zero, List.getElem_cons_succ, Act.put, List.setIfInBounds_toArray, List.set_cons_zero, List.set_cons_succ]
    refine wpX_f _ (.int .i64 (32 * (p : Int))) rfl rfl (fun X _ => by simp [go_sem]) ?_
    simp only [List.getElem_toArray, List.getElem_cons_zero, List.getElem_cons_succ, Act.put, List.setIfInBounds_toArray, List.set_cons_zero, List.set_cons_succ]
    refine wpX_f _ (.int .i64 (32 * (p : Int) + 32)) rfl rfl (fun X _ => by simp [go_sem, ea.out]) ?_
    simp only [List.getElem_toArray, List.getElem_cons_zero, List.getElem_cons_succ, Act.put, List.setIfInBounds_toArray, List.set_cons_zero, List.set_cons_succ]
    refine wpX_f _ (.slice (some (qj.add (32 * p))) 32 (qjc - 32 * p)) rfl rfl (fun X _ => by simp [go_sem, hcut]) ?_
    simp only [List.getElem_toArray, List.getElem_cons_zero, List.getElem_cons_succ, Act.put, List.setIfInBounds_toArray, List.set_cons_zero, List.set_cons_succ]
    refine wpX_f _ (.string z1) rfl rfl (fun X hX => by have e := cp X hX; simp [go_sem, e]) ?_
    simp only [List.getElem_toArray, List.getElem_cons_zero, List.getElem_cons_succ, Act.put, List.setIfInBounds_toArray, List.set_cons_zero, List.set_cons_succ]
    refine wpX_f _ (.slice (some ⟨w.heap.size, 0, none⟩) 32 32) rfl rfl (fun X _ => by simp [go_sem, cutR25]) ?_
    simp only [List.getElem_toArray, List.getElem_cons_zero, List.getElem_cons_succ, Act.put, List.setIfInBounds_toArray, List.set_cons_zero, List.set_cons_succ]
    refine wpX_f _ (.string z2) rfl rfl (fun X hX => by have e := cq X hX; simp [go_sem, e]) ?_
    simp only [List.getElem_toArray, List.getElem_cons_zero, List.getElem_cons_succ, Act.put, List.setIfInBounds_toArray, List.set_cons_zero, List.set_cons_succ]
    refine wpX_f _ (.bool false) rfl rfl (fun X _ => by simp [go_sem, hss]) ?_
    simp only [List.getElem_toArray, List.getElem_cons_zero, List.getElem_cons_succ, Act.put, List.setIfInBounds_toArray, List.set_cons_zero, List.set_cons_succ]
    refine wpX_f _ (.bool false) rfl rfl (fun X _ => by simp [go_sem]) ?_
    simp only [List.getElem_toArray, List.getElem_cons_zero, List.getElem_cons_succ, Act.put, List.setIfInBounds_toArray, List.set_cons_zero, List.set_cons_succ]
    refine wpX_f _ (.int .i64 (x : Int)) rfl rfl (fun X _ => by simp [go_sem]) ?_
    simp only [List.getElem_toArray, List.getElem_cons_zero, List.getElem_cons_succ, Act.put, List.setIfInBounds_toArray, List.set_cons_zero, List.set_cons_succ]
    refine wpX_f _ (.slice (some pa) k cap) rfl rfl (fun X _ => by simp [go_sem]) ?_
    simp only [List.getElem_toArray, List.getElem_cons_zero, List.getElem_cons_succ, Act.put, List.setIfInBounds_toArray, List.set_cons_zero, List.set_cons_succ]
    refine wpX_call _ rfl rfl (by simp [go_sem]) ((kj.out _ E8.out).mono ?_)
    rintro e w9 ⟨hj | hj, hX9⟩
    · obtain ⟨hj, rfl⟩ := hj
      replace hj := hideit hj
      refine ⟨_, rfl, fun X => Ext w9 X, fun X hX => Ext.trans hX9 hX, Ext.refl _, ?_⟩
      simp only [List.getElem_toArray, List.getElem_cons_zero, List.getElem_cons_succ, Act.put, List.setIfInBounds_toArray, List.set_cons_zero, List.set_cons_succ]
      refine wpX_f _ (.bool false) rfl rfl (fun X _ => by simp [go_sem]) ?_
      simp only [List.getElem_toArray, List.getElem_cons_zero, List.getElem_cons_succ, Act.put, List.setIfInBounds_toArray, List.set_cons_zero, List.set_cons_succ]
      refine wpX_f _ (.bool false) rfl rfl (fun X _ => by simp [go_sem]) ?_
      simp only [List.getElem_toArray, List.getElem_cons_zero, List.getElem_cons_succ, Act.put, List.setIfInBounds_toArray, List.set_cons_zero, List.set_cons_succ]
      refine wpX_f _ (.bool false) rfl rfl (fun X _ => by simp [go_sem]) ?_
      simp only [List.getElem_toArray, List.getElem_cons_zero, List.getElem_cons_succ, Act.put, List.setIfInBounds_toArray, List.set_cons_zero, List.set_cons_succ]
      refine wpX_f _ (.agg (row 32 (yv R)).toArray) rfl rfl (fun X hX => exec_loadR 25 (.tmp 11) rfl rb 0 32 _ rfl (H8.out.carry (Ext.trans hX9 hX)).range Tryd.underlying25 rfl info24) ?_
      simp only [List.getElem_toArray, List.getElem_cons_zero, List.getElem_cons_succ, Act.put, List.setIfInBounds_toArray, List.set_cons_zero, List.set_cons_succ]
      refine wpX_f _ (.agg (row 32 (yv root)).toArray) rfl rfl (fun X hX => exec_loadR 25 (.tmp 9) rfl (w.heap.size + 1) 0 32 _ rfl (T8.out.carry (Ext.trans hX9 hX)).range Tryd.underlying25 rfl info24) ?_
      simp only [List.getElem_toArray, List.getElem_cons_zero, List.getElem_cons_succ, Act.put, List.setIfInBounds_toArray, List.set_cons_zero, List.set_cons_succ]
      refine wpX_f _ (.bool (!(eqN 32 R root))) rfl rfl (fun X hX => exec_cmp .neq 25 25 (.tmp 52) (.tmp 53) rfl _ _ rfl rfl (by kernel_rfl) _ (neq25 _ _ X)) ?_
      simp only [List.getElem_toArray, List.getElem_cons_zero, List.getElem_cons_succ, Act.put, List.setIfInBounds_toArray, List.set_cons_zero, List.set_cons_succ]
      refine wpX_f _ (.bool (!(eqN 32 R root))) rfl rfl (fun X _ => by simp [go_sem]) ?_
      simp only [List.getElem_toArray, List.getElem_cons_zero, List.getElem_cons_succ, Act.put, List.setIfInBounds_toArray, List.set_cons_zero, List.set_cons_succ]
      refine wpX_nil ?_
      have E9 := hideit (Ext.trans E8.out hX9)
      clear cp cq hcut hX9
      cases hr : eqN 32 R root with
      | true =>
        have ok := hideit (show Ok by rw [hOk.out]; exact ⟨heq, hj.out, hr⟩)
        go_wp2
        go_ret
        exact ⟨.inl ⟨ok.out, rfl⟩, E9.out⟩
      | false =>
        have ok := hideit (show ¬ Ok by rw [hOk.out]; exact fun h => by rw [hr] at h; cases h.2.2)
        go_wp2
        go_ret
        exact ⟨.inr ⟨ok.out, rfl⟩, E9.out⟩
    · obtain ⟨hj, rfl⟩ := hj
      replace hj := hideit hj
      refine ⟨_, rfl, fun X => Ext w9 X, fun X hX => Ext.trans hX9 hX, Ext.refl _, ?_⟩
      simp only [List.getElem_toArray, List.getElem_cons_zero, List.getElem_cons_succ, Act.put, List.setIfInBounds_toArray, List.set_cons_zero, List.set_cons_succ]
      refine wpX_f _ (.bool true) rfl rfl (fun X _ => by simp [go_sem]) ?_
      simp only [List.getElem_toArray, List.getElem_cons_zero, List.getElem_cons_succ, Act.put, List.setIfInBounds_toArray, List.set_cons_zero, List.set_cons_succ]
      refine wpX_f _ (.bool true) rfl rfl (fun X _ => by simp [go_sem]) ?_
      simp only [List.getElem_toArray, List.getElem_cons_zero, List.getElem_cons_succ, Act.put, List.setIfInBounds_toArray, List.set_cons_zero, List.set_cons_succ]
      refine wpX_f _ (.bool true) rfl rfl (fun X _ => by simp [go_sem]) ?_
      simp only [List.getElem_toArray, List.getElem_cons_zero, List.getElem_cons_succ, Act.put, List.setIfInBounds_toArray, List.set_cons_zero, List.set_cons_succ]
      refine wpX_fskip _ rfl rfl ?_
      simp only [List.getElem_toArray, List.getElem_cons_zero, List.getElem_cons_succ, Act.put, List.setIfInBounds_toArray, List.set_cons_zero, List.set_cons_succ]
      refine wpX_fskip _ rfl rfl ?_
      simp only [List.getElem_toArray, List.getElem_cons_zero, List.getElem_cons_succ, Act.put, List.setIfInBounds_toArray, List.set_cons_zero, List.set_cons_succ]
      refine wpX_fskip _ rfl rfl ?_
      simp only [List.getElem_toArray, List.getElem_cons_zero, List.getElem_cons_succ, Act.put, List.setIfInBounds_toArray, List.set_cons_zero, List.set_cons_succ]
      refine wpX_f _ (.bool true) rfl rfl (fun X _ => by simp [go_sem]) ?_
      simp only [List.getElem_toArray, List.getElem_cons_zero, List.getElem_cons_succ, Act.put, List.setIfInBounds_toArray, List.set_cons_zero, List.set_cons_succ]
      refine wpX_nil ?_
      have E9 := hideit (Ext.trans E8.out hX9)
      clear cp cq hcut hX9
      have ok := hideit (show ¬ Ok by rw [hOk.out]; exact fun h => hj.out h.2.1)
      go_wp2
      go_ret
      exact ⟨.inr ⟨ok.out, rfl⟩, E9.out⟩
  | false =>
    rw [heq] at hss
    refine wp_region_lad (fun X => Ext w3.drew X) [(false, 0), (false, 1), (false, 2), (false, 3), (false, 4), (false, 5), (false, 6), (false, 7), (false, 8), (false, 9), (false, 10), (false, 11), (false, 12), (false, 13), (true, 14), (false, 15), (false, 16), (false, 17), (false, 18), (false, 19), (false, 20), (false, 21)] (by kernel_rfl) (by kernel_rfl) (by decide +kernel) (by decide +kernel) (by decide +kernel) (by decide +kernel) (Ext.refl _) ?_
    refine wpX_f _ (.slice (some pa) k cap) rfl rfl (fun X _ => by simp [go_sem]) ?_
    simp only [List.getElem_toArray, List.getElem_cons_zero, Act.put, List.setIfInBounds_toArray, List.set_cons_zero, List.set_cons_succ]
    refine wpX_f _ (.pointer (some pa)) rfl rfl (fun X _ => by simp [go_sem, k0]) ?_
    simp only [List.getElem_toArray, List.getElem_cons_zero, List.getElem_cons_succ, Act.put, List.setIfInBounds_toArray, List.set_cons_zero, List.set_cons_succ]
    refine wpX_f _ (.slice (some qj) 512 qjc) rfl rfl (fun X hX => by have e := (hal.out.carry (Ext.trans E8.out hX)).1 0 (by omega); rw [hqu.out] at e; simp [go_sem] at e; simp [go_sem, e]) ?_
    simp only [List.getElem_toArray, List.getElem_cons_zero, List.getElem_cons_succ, Act.put, List.setIfInBounds_toArray, List.set_cons_zero, List.set_cons_succ]
    refine wpX_f _ (.int .i64 (32 * (p : Int))) rfl rfl (fun X _ => by simp [go_sem]) ?_
    simp only [List.getElem_toArray, List.getElem_cons_zero, List.getElem_cons_succ, Act.put, List.setIfInBounds_toArray, List.set_cons_zero, List.set_cons_succ]
    refine wpX_f _ (.int .i64 (32 * (p : Int))) rfl rfl (fun X _ => by simp [go_sem]) ?_
    simp only [List.getElem_toArray, List.getElem_cons_zero, List.getElem_cons_succ, Act.put, List.setIfInBounds_toArray, List.set_cons_zero, List.set_cons_succ]
    refine wpX_f _ (.int .i64 (32 * (p : Int) + 32)) rfl rfl (fun X _ => by simp [go_sem, ea.out]) ?_
    simp only [List.getElem_toArray, List.getElem_cons_zero, List.getElem_cons_succ, Act.put, List.setIfInBounds_toArray, List.set_cons_zero, List.set_cons_succ]
    refine wpX_f _ (.slice (some (qj.add (32 * p))) 32 (qjc - 32 * p)) rfl rfl (fun X _ => by simp [go_sem, hcut]) ?_
    simp only [List.getElem_toArray, List.getElem_cons_zero, List.getElem_cons_succ, Act.put, List.setIfInBounds_toArray, List.set_cons_zero, List.set_cons_succ]
    refine wpX_f _ (.string z1) rfl rfl (fun X hX => by have e := cp X hX; simp [go_sem, e]) ?_
    simp only [List.getElem_toArray, List.getElem_cons_zero, List.getElem_cons_succ, Act.put, List.setIfInBounds_toArray, List.set_cons_zero, List.set_cons_succ]
    refine wpX_f _ (.slice (some ⟨w.heap.size, 0, none⟩) 32 32) rfl rfl (fun X _ => by simp [go_sem, cutR25]) ?_
    simp only [List.getElem_toArray, List.getElem_cons_zero, List.getElem_cons_succ, Act.put, List.setIfInBounds_toArray, List.set_cons_zero, List.set_cons_succ]
    refine wpX_f _ (.string z2) rfl rfl (fun X hX => by have e := cq X hX; simp [go_sem, e]) ?_
    simp only [List.getElem_toArray, List.getElem_cons_zero, List.getElem_cons_succ, Act.put, List.setIfInBounds_toArray, List.set_cons_zero, List.set_cons_succ]
    refine wpX_f _ (.bool true) rfl rfl (fun X _ => by simp [go_sem, hss]) ?_
    simp only [List.getElem_toArray, List.getElem_cons_zero, List.getElem_cons_succ, Act.put, List.setIfInBounds_toArray, List.set_cons_zero, List.set_cons_succ]
    refine wpX_f _ (.bool true) rfl rfl (fun X _ => by simp [go_sem]) ?_
    simp only [List.getElem_toArray, List.getElem_cons_zero, List.getElem_cons_succ, Act.put, List.setIfInBounds_toArray, List.set_cons_zero, List.set_cons_succ]
    refine wpX_fskip _ rfl rfl ?_
    simp only [List.getElem_toArray, List.getElem_cons_zero, List.getElem_cons_succ, Act.put, List.setIfInBounds_toArray, List.set_cons_zero, List.set_cons_succ]
    refine wpX_fskip _ rfl rfl ?_
    simp only [List.getElem_toArray, List.getElem_cons_zero, List.getElem_cons_succ, Act.put, List.setIfInBounds_toArray, List.set_cons_zero, List.set_cons_succ]
    refine wpX_skip _ rfl rfl (Ext.refl _) ?_
    simp only [List.getElem_toArray, List.getElem_cons_zero, List.getElem_cons_succ, Act.put, List.setIfInBounds_toArray, List.set_cons_zero, List.set_cons_succ]
    refine wpX_fskip _ rfl rfl ?_
    simp only [List.getElem_toArray, List.getElem_cons_zero, List.getElem_cons_succ, Act.put, List.setIfInBounds_toArray, List.set_cons_zero, List.set_cons_succ]
    refine wpX_f _ (.bool true) rfl rfl (fun X _ => by simp [go_sem]) ?_
    simp only [List.getElem_toArray, List.getElem_cons_zero, List.getElem_cons_succ, Act.put, List.setIfInBounds_toArray, List.set_cons_zero, List.set_cons_succ]
    refine wpX_f _ (.bool true) rfl rfl (fun X _ => by simp [go_sem]) ?_
    simp only [List.getElem_toArray, List.getElem_cons_zero, List.getElem_cons_succ, Act.put, List.setIfInBounds_toArray, List.set_cons_zero, List.set_cons_succ]
    refine wpX_fskip _ rfl rfl ?_
    simp only [List.getElem_toArray, List.getElem_cons_zero, List.getElem_cons_succ, Act.put, List.setIfInBounds_toArray, List.set_cons_zero, List.set_cons_succ]
    refine wpX_fskip _ rfl rfl ?_
    simp only [List.getElem_toArray, List.getElem_cons_zero, List.getElem_cons_succ, Act.put, List.setIfInBounds_toArray, List.set_cons_zero, List.set_cons_succ]
    refine wpX_fskip _ rfl rfl ?_
    simp only [List.getElem_toArray, List.getElem_cons_zero, List.getElem_cons_succ, Act.put, List.setIfInBounds_toArray, List.set_cons_zero, List.set_cons_succ]
    refine wpX_f _ (.bool true) rfl rfl (fun X _ => by simp [go_sem]) ?_
    simp only [List.getElem_toArray, List.getElem_cons_zero, List.getElem_cons_succ, Act.put, List.setIfInBounds_toArray, List.set_cons_zero, List.set_cons_succ]
    refine wpX_nil ?_
    clear cp cq hcut
    have ok := hideit (show ¬ Ok by rw [hOk.out]; exact fun h => by rw [heq] at h; cases h.1)
    go_wp2
    go_ret
    exact ⟨.inr ⟨ok.out, rfl⟩, E8.out⟩
end Go.Proofs.YtapmheocllicnaaDoor
