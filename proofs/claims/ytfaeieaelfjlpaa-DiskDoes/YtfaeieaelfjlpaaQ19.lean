/-
  Parts of rows; when arrays of bytes within structs are the same; no word of the program. What must come of every disk: lives answers true.
-/
import Derived.Test.YtfaeieaelfjlpaaQ3
import Derived.Test.YtfaeieaelfjlpaaQ18
namespace Go.Proofs.Ytfaeieaelfjlpaa
open Go.RowKit Go.BigFrame
section
variable {P : Program}
theorem row_extract (n m off : Nat) (g : Nat → Value) (h : off + m ≤ n) : (row n g).toArray.extract off (off + m) = (row m fun j => g (off + j)).toArray := by
  apply Array.ext
  · simp [row_length]; omega
  · intro i h1 h2
    simp [row]
theorem part_arr {t : TypeId} {n m off : Nat} {g : Nat → Value} {w : World} (ha : (isAgg t).run P w = .ok true w) (hs : (sizeOf t).run P w = .ok m w) (h : off + m ≤ n) :
    (part t (row n g).toArray off).run P w = .ok (.agg (row m fun j => g (off + j)).toArray) w := by
  unfold part
  simp only [Sem.run_bind, ha, hs, Result.andThen_ok, if_true, Sem.run_pure, row_extract n m off g h]
theorem part_one {t : TypeId} {n off : Nat} {g : Nat → Value} {w : World} (ha : (isAgg t).run P w = .ok false w) (h : off < n) :
    (part t (row n g).toArray off).run P w = .ok (g off) w := by
  unfold part
  have hg : (row n g).toArray[off]? = some (g off) := by rw [List.getElem?_toArray]; exact row_get n g off h
  simp only [Sem.run_bind, ha, Result.andThen_ok, Bool.false_eq_true, if_false, hg, Sem.run_pure]
theorem equalIn_row (d : Nat) (t e : TypeId) (n : Nat) (k : IntKind) (ht : P.underlying t = some (.array n e)) (he : P.underlying e = some (.int k)) (hsz : ∀ w, (sizeOf e).run P w = .ok 1 w) (z z' : Nat → Int) (w : World) :
    (Op.equalIn (d + 2) t (.agg (row n fun j => .int k (z j)).toArray) (.agg (row n fun j => .int k (z' j)).toArray)).run P w = .ok ((List.range n).all fun j => z j == z' j) w := by
  rw [List.range_eq_range', Op.equalIn]
  simp only [Sem.run_bind, run_underlying ht, Result.andThen_ok, hsz, Std.Legacy.Range.forIn_eq_forIn_range', Std.Legacy.Range.size, Nat.sub_zero, Nat.add_sub_cancel, Nat.div_one]
  have hl : ∀ i ∈ List.range' 0 n 1, i < n := fun i hi => by simpa using (List.mem_range'_1.1 hi).2
  generalize List.range' 0 n 1 = l at hl ⊢
  induction l with
  | nil => simp
  | cons i l ih =>
    have hi : i < n := hl i (by simp)
    have px : (part e (row n fun j => .int k (z j)).toArray (i * 1)).run P w = .ok (.int k (z i)) w := by
      simp [part, isAgg, run_underlying he, row_get n (fun j => Value.int k (z j)) i hi]
    have py : (part e (row n fun j => .int k (z' j)).toArray (i * 1)).run P w = .ok (.int k (z' i)) w := by
      simp [part, isAgg, run_underlying he, row_get n (fun j => Value.int k (z' j)) i hi]
    have pe : (Op.equalIn (d + 1) e (.int k (z i)) (.int k (z' i))).run P w = .ok (z i == z' i) w := run_equalIn_int w d e k k _ _ he
    simp only [List.forIn_cons, Sem.run_bind, px, py, pe, Result.andThen_ok, List.all_cons]
    cases hb : (z i == z' i)
    · simp
    · simp only [Bool.not_true, Bool.false_eq_true, if_false, Sem.run_pure, Result.andThen_ok, Bool.true_and]
      exact ih fun j hj => hl j (by simp [hj])
theorem eqFields_cons (d : Nat) (xs ys : Array Value) (f : Field) (fs : List Field) (x y : Value) (r s : Bool) (w : World) (hn : f.name ≠ "_") (hx : (part f.type xs f.offset).run P w = .ok x w) (hy : (part f.type ys f.offset).run P w = .ok y w)
    (hr : (Op.equalIn d f.type x y).run P w = .ok r w) (hs : (Op.eqFields d xs ys fs).run P w = .ok s w) : (Op.eqFields d xs ys (f :: fs)).run P w = .ok (r && s) w := by
  rw [Op.eqFields, if_pos hn]
  simp only [Sem.run_bind, hx, hy, hr, Result.andThen_ok]
  cases r
  · simp
  · simp only [Bool.not_true, Bool.false_eq_true, if_false, Bool.true_and]
    exact hs
theorem eqFields_nil (d : Nat) (xs ys : Array Value) (w : World) : (Op.eqFields d xs ys []).run P w = .ok true w := by
  rw [Op.eqFields]; rfl
end
theorem all_iff (n : Nat) (f g : Nat → BitVec 8) : ((List.range n).all fun j => ((f j).toNat : Int) == ((g j).toNat : Int)) = decide (∀ j, j < n → f j = g j) := by
  rw [Bool.eq_iff_iff, List.all_eq_true, decide_eq_true_iff]
  constructor
  · intro h j hj
    have := h j (by simpa using hj)
    rw [beq_iff_eq] at this
    exact BitVec.eq_of_toNat_eq (by omega)
  · intro h j hj
    rw [h j (by simpa using hj)]
    exact beq_self_eq_true _
end Go.Proofs.Ytfaeieaelfjlpaa
namespace Go.Proofs.Ytfaeieaelfjlpaa
open Go.RowKit Go.BigFrame Go.Maps
def cF (c : Nat) (_ : Nat) : BitVec 8 := BitVec.ofNat 8 c
section
variable {F : Nat → Prop} {p : Nat} {s : DSt} {C : Nat} {M : DM} {W : World}
/-- of a disk without unsure writes nothing is listed -/
theorem dunsure_none (h : DkM F p s C M W) (h0 : ∀ n, n < s.N → s.kc n = 0) : Calls Try.prog 17 #[.pointer (some ⟨p, 0, none⟩)] W fun e w' => ∃ v, e = .returned v ∧ Ext W w' ∧ ∃ o cap, v = .slice o 0 cap := by
  refine dunsure_gen h (fun v _ => ∃ o cap, v = .slice o 0 cap) fun v k ks X hO hL hk hE => ?_
  obtain ⟨o, cap, rfl⟩ := hO.form
  have hk0 : k = 0 := by
    rcases Nat.eq_zero_or_pos k with e | e
    · exact e
    · obtain ⟨n, _, a2, a3⟩ := hL.isN 0 e
      have := h0 n a2
      omega
  subst hk0
  refine (sort_tiny o 0 cap (by omega) _ X).mono ?_
  rintro e X' ⟨rfl, rfl⟩
  exact ⟨rfl, hE, o, cap, rfl⟩
/-- of one block with unsure writes that one is listed -/
theorem dunsure_one (h : DkM F p s C M W) (n : Nat) (hn : n < s.N) (h1 : 0 < s.kc n) (h0 : ∀ n', n' < s.N → n' ≠ n → s.kc n' = 0) : Calls Try.prog 17 #[.pointer (some ⟨p, 0, none⟩)] W fun e w' => ∃ v, e = .returned v ∧ Ext W w' ∧ ∃ b cap, v = .slice (some ⟨b, 0, none⟩) 1 cap ∧ RowAt b 2 (kpI (n : Int) (s.kc n : Int)) w' ∧ W.heap.size ≤ b := by
  refine dunsure_gen h (fun v w' => ∃ b cap, v = .slice (some ⟨b, 0, none⟩) 1 cap ∧ RowAt b 2 (kpI (n : Int) (s.kc n : Int)) w' ∧ W.heap.size ≤ b) fun v k ks X hO hL hk hE => ?_
  have hk1 : k = 1 := by
    obtain ⟨j, hj, hjn⟩ := hL.all n hn h1
    have key : ∀ i, i < k → ks i = (n : Int) := fun i hi => by
      obtain ⟨n', a1, a2, a3⟩ := hL.isN i hi
      by_cases e : n' = n
      · rw [a1, e]
      · have := h0 n' a2 e
        omega
    rcases Nat.lt_or_ge 1 k with e | e
    · have := hL.inj 0 1 (by omega) (by omega) ((key 0 (by omega)).trans (key 1 (by omega)).symm)
      omega
    · omega
  subst hk1
  obtain ⟨b, cap, rfl, hb, _, _, hR⟩ := hO.lies (by decide)
  have hks : ks 0 = (n : Int) := by
    obtain ⟨j, hj, hjn⟩ := hL.all n hn h1
    rw [show j = 0 by omega] at hjn
    exact hjn
  refine (sort_tiny (some ⟨b, 0, none⟩) 1 cap (by omega) _ X).mono ?_
  rintro e X' ⟨rfl, rfl⟩
  refine ⟨rfl, hE, b, cap, rfl, hR.congr fun j hj => ?_, hb⟩
  unfold kpV kcI
  rw [show j / 2 = 0 by omega, show j % 2 = j by omega, hks, Int.toNat_natCast]
end
/-- what block 3 has when lives is done -/
def s1L : DSt := wrS (newS 4) 3 (blkF 1 (cF 120))
def s2L : DSt := wrS s1L 3 (blkF 1 (cF 121))
def s3L : DSt := crS s2L (fun _ => 3) (fun _ => 1) 1
theorem has3L : hasF s3L 3 = blkF 1 (cF 120) := rfl
theorem kc2L : s2L.kc 3 = 2 := rfl
theorem kc0L (n : Nat) (hn : n ≠ 3) : s2L.kc n = 0 := by
  show upN (upN (fun _ => 0) 3 1) 3 2 n = 0
  rw [upN_other _ hn, upN_other _ hn]
theorem info65b : (Try.prog.info? 65).map (·.size) = some 2 := info65
theorem eq32 (X : World) : (binOp .eql 65 (.agg (row 2 (kpI 3 2)).toArray) (.agg #[.int .i64 3, .int .i64 2])).run Try.prog X = .ok (.bool true) X := by kernel_rfl
theorem exec_cmp {P : Program} {o : Oper} {a : Act} {w : World} (op : BinOp) (t u : TypeId) (x y : Operand) (ho : o.op = .binOp op t x y u) (X Y : Array Value) (hx : a.eval x = .agg X) (hy : a.eval y = .agg Y)
    (hm : P.eqGuardType P.depth t = false) (r : Bool) (hr : (binOp op t (.agg X) (.agg Y)).run P w = .ok (.bool r) w) : (execOp a.eval o).run P w = .ok (.value (.bool r)) w := by
  unfold execOp
  simp only [ho, hx, hy, Sem.run_bind, run_eqGuard_agg (P := P) w op t x y X Y hm, Result.andThen_ok, hr, Sem.run_pure]
theorem b512 {v : Value} {f : Nat → BitVec 8} {w : World} {base : Nat} (h : OwnB base 5 v 512 (yv f) w) : ∃ o cap, v = .slice o 512 cap := by
  obtain ⟨o, cap, e⟩ := h.bv.form
  exact ⟨o, cap, e⟩
set_option maxRecDepth 20000 in
set_option maxHeartbeats 8000000 in
theorem lives_any (w : World) : Calls Try.prog 9 #[] w fun e w' => e = .returned (.bool true) ∧ Ext w w' := by
  have kn := hideit (dnew 4 (by decide) (by decide) w)
  go_enter Try.func9, Try.ntmps9
  go_upto_region 1 with (fail)
  refine wp_region_lit ?_
  refine wpList_call rfl (by simp [go_sem]) ((kn.out).mono ?_)
  rintro e w1 ⟨p, F0, M0, rfl, hd1, hX1, hF0⟩
  refine ⟨_, rfl, ?_⟩
  simp only [Act.put, List.setIfInBounds_toArray, List.set_cons_zero, List.set_cons_succ]
  refine wpList_run rfl (.tuple #[.pointer (some ⟨p, 0, none⟩), .int .i64 0]) (by simp [go_sem]) ?_
  simp only [Act.put, List.setIfInBounds_toArray, List.set_cons_zero, List.set_cons_succ]
  refine wpList_run rfl (.pointer (some ⟨p, 0, none⟩)) (by simp [go_sem]) ?_
  simp only [Act.put, List.setIfInBounds_toArray, List.set_cons_zero, List.set_cons_succ]
  refine wpList_run rfl (.int .i64 0) (by simp [go_sem]) ?_
  simp only [Act.put, List.setIfInBounds_toArray, List.set_cons_zero, List.set_cons_succ]
  refine wpList_run rfl (.pointer (some ⟨p, 0, none⟩)) (by simp [go_sem]) ?_
  simp only [Act.put, List.setIfInBounds_toArray, List.set_cons_zero, List.set_cons_succ]
  refine wpList_run rfl (.int .i64 0) (by simp [go_sem]) ?_
  simp only [Act.put, List.setIfInBounds_toArray, List.set_cons_zero, List.set_cons_succ]
  clear kn
  go_upto_region 4 with (fail)
  obtain ⟨w2, hcv2, hbv2, hX2⟩ := constB w1 #[.int .u8 120] 1 (cF 120) (fun j hj => by
    have : j = 0 := by omega
    subst this
    rfl)
  have hd2 := hd1.ext hX2
  have kb := hideit (block_any _ 1 _ w2 hbv2 (by unfold maxLen; decide))
  refine wp_region_lit ?_
  refine wpList_run rfl (.pointer (some ⟨p, 0, none⟩)) (by simp [go_sem]) ?_
  simp only [Act.put, List.setIfInBounds_toArray, List.set_cons_zero, List.set_cons_succ]
  refine wpList_to rfl (.slice (some ⟨w1.heap.size, 0, none⟩) 1 1) (w1.alloc (.cells #[.int .u8 120] 5)) (by simp [go_sem]) ?_
  simp only [Act.put, List.setIfInBounds_toArray, List.set_cons_zero, List.set_cons_succ]
  refine wpList_to rfl (.slice (some ⟨w1.heap.size, 0, none⟩) 1 1) (w2) (by simp [go_sem, hcv2]) ?_
  simp only [Act.put, List.setIfInBounds_toArray, List.set_cons_zero, List.set_cons_succ]
  refine wpList_call rfl (by simp [go_sem]) ((kb.out).mono ?_)
  rintro e w3 ⟨v3, rfl, hO3, hX3⟩
  refine ⟨_, rfl, ?_⟩
  simp only [Act.put, List.setIfInBounds_toArray, List.set_cons_zero, List.set_cons_succ]
  obtain ⟨o3, c3, rfl⟩ := b512 hO3
  have kw := hideit (dwrite (hd2.ext hX3) 3 (by decide) (by decide) o3 c3 _ hO3.bv (by decide))
  have hE3 := Ext.trans (Ext.trans hX1 hX2) hX3
  clear kb hcv2 hbv2 hO3
  refine wpList_call rfl (by simp [go_sem]) ((kw.out).mono ?_)
  rintro e w4 ⟨rfl, F1, M1, hd4, hk4, hF1⟩
  refine ⟨_, rfl, ?_⟩
  simp only [Act.put, List.setIfInBounds_toArray, List.set_cons_zero, List.set_cons_succ]
  have hE4 : Ext w w4 := Below.trans hE3 (hk4.below (Below.size hE3) hF0)
  have hF1b : ∀ i, F1 i → w.heap.size ≤ i := fun i hi => by
    rcases hF1 i hi with e | e
    · exact hF0 i e
    · exact Nat.le_trans (Below.size hE3) e
  clear kw hd1 hd2 hk4 hF1 hF0 hE3 hX1 hX2 hX3
  go_upto_region 5 with (fail)
  obtain ⟨w5, hcv5, hbv5, hX5⟩ := constB w4 #[.int .u8 121] 1 (cF 121) (fun j hj => by
    have : j = 0 := by omega
    subst this
    rfl)
  have hd5 := hd4.ext hX5
  have kb := hideit (block_any _ 1 _ w5 hbv5 (by unfold maxLen; decide))
  refine wp_region_lit ?_
  refine wpList_run rfl (.pointer (some ⟨p, 0, none⟩)) (by simp [go_sem]) ?_
  simp only [Act.put, List.setIfInBounds_toArray, List.set_cons_zero, List.set_cons_succ]
  refine wpList_to rfl (.slice (some ⟨w4.heap.size, 0, none⟩) 1 1) (w4.alloc (.cells #[.int .u8 121] 5)) (by simp [go_sem]) ?_
  simp only [Act.put, List.setIfInBounds_toArray, List.set_cons_zero, List.set_cons_succ]
  refine wpList_to rfl (.slice (some ⟨w4.heap.size, 0, none⟩) 1 1) (w5) (by simp [go_sem, hcv5]) ?_
  simp only [Act.put, List.setIfInBounds_toArray, List.set_cons_zero, List.set_cons_succ]
  refine wpList_call rfl (by simp [go_sem]) ((kb.out).mono ?_)
  rintro e w6 ⟨v6, rfl, hO6, hX6⟩
  refine ⟨_, rfl, ?_⟩
  simp only [Act.put, List.setIfInBounds_toArray, List.set_cons_zero, List.set_cons_succ]
  obtain ⟨o6, c6, rfl⟩ := b512 hO6
  have kw := hideit (dwrite (hd5.ext hX6) 3 (by decide) (by decide) o6 c6 _ hO6.bv (by decide))
  have hE6 := Ext.trans (Ext.trans hE4 hX5) hX6
  clear kb hcv5 hbv5 hO6
  refine wpList_call rfl (by simp [go_sem]) ((kw.out).mono ?_)
  rintro e w7 ⟨rfl, F2, M2, hd7, hk7, hF2⟩
  refine ⟨_, rfl, ?_⟩
  simp only [Act.put, List.setIfInBounds_toArray, List.set_cons_zero, List.set_cons_succ]
  have hE7 : Ext w w7 := Below.trans hE6 (hk7.below (Below.size hE6) hF1b)
  have hF2b : ∀ i, F2 i → w.heap.size ≤ i := fun i hi => by
    rcases hF2 i hi with e | e
    · exact hF1b i e
    · exact Nat.le_trans (Below.size hE6) e
  clear kw hd4 hd5 hk7 hF2 hF1b hE6 hE4 hX5 hX6
  have hd7' : DkM F2 p s2L 2 M2 w7 := hd7
  have ku := dunsure_one hd7' 3 (by decide) (by decide) fun n' _ hne => kc0L n' hne
  rw [kc2L] at ku
  replace ku := hideit ku
  go_upto_region 6 with (fail)
  refine wp_region_lit ?_
  refine wpList_run rfl (.pointer (some ⟨p, 0, none⟩)) (by simp [go_sem]) ?_
  simp only [Act.put, List.setIfInBounds_toArray, List.set_cons_zero, List.set_cons_succ]
  refine wpList_call rfl (by simp [go_sem]) ((ku.out).mono ?_)
  rintro e w8 ⟨uv, rfl, hX8, ub, ucap, rfl, hU8, hub⟩
  refine ⟨_, rfl, ?_⟩
  simp only [Act.put, List.setIfInBounds_toArray, List.set_cons_zero, List.set_cons_succ]
  refine wpList_run rfl (.slice (some ⟨ub, 0, none⟩) 1 ucap) (by simp [go_sem]) ?_
  simp only [Act.put, List.setIfInBounds_toArray, List.set_cons_zero, List.set_cons_succ]
  have hd8 := hd7'.ext hX8
  have hE8 := Ext.trans hE7 hX8
  have hX9 : Ext w8 (w8.alloc (.cells #[.int .i64 3, .int .i64 1] 65)) := (Below.refl _ _).alloc (Nat.le_refl _) _
  have hKL : KL (.slice (some ⟨w8.heap.size, 0, none⟩) 1 1) 1 (fun _ => 3) (fun _ => 1) (w8.alloc (.cells #[.int .i64 3, .int .i64 1] 65)) := .inr ⟨_, 1, rfl, Nat.le_refl _, RowAt.lie (RowAt.newOf w8 2 _ 65 _ fun j hj => by
    rcases (by omega : j = 0 ∨ j = 1) with rfl | rfl <;> rfl) 2 (Nat.le_refl _)⟩
  have kc := hideit (dcrash (hd8.ext hX9) _ 1 hKL (fun i hi => WalkArith.wf_i64 (by decide)) (by decide) (fun i hi => by
    obtain rfl : i = 0 := by omega
    exact ⟨rfl, by decide, by decide, by decide⟩) (by decide))
  have hubF : ¬ F2 ub := fun e => by have := hd7'.lt ub e; omega
  have hU9 := hU8.carry hX9
  go_upto_region 7 with (fail)
  refine wp_region_lit ?_
  refine wpList_run rfl (.pointer (some ⟨p, 0, none⟩)) (by simp [go_sem]) ?_
  simp only [Act.put, List.setIfInBounds_toArray, List.set_cons_zero, List.set_cons_succ]
  refine wpList_run rfl (.agg #[.int .i64 3, .int .i64 1]) (by simp [go_sem]) ?_
  simp only [Act.put, List.setIfInBounds_toArray, List.set_cons_zero, List.set_cons_succ]
  refine wpList_to rfl (.slice (some ⟨w8.heap.size, 0, none⟩) 1 1) (w8.alloc (.cells #[.int .i64 3, .int .i64 1] 65)) (by simp [go_sem]) ?_
  simp only [Act.put, List.setIfInBounds_toArray, List.set_cons_zero, List.set_cons_succ]
  have hE9 := Ext.trans hE8 hX9
  generalize w8.alloc (.cells #[.int .i64 3, .int .i64 1] 65) = w9 at *
  refine wpList_call rfl (by simp [go_sem]) ((kc.out).mono ?_)
  rintro e w10 ⟨rfl, M3, hd10, hk10⟩
  refine ⟨_, rfl, ?_⟩
  simp only [Act.put, List.setIfInBounds_toArray, List.set_cons_zero, List.set_cons_succ]
  refine wpList_run rfl (.int .i64 0) (by simp [go_sem]) ?_
  simp only [Act.put, List.setIfInBounds_toArray, List.set_cons_zero, List.set_cons_succ]
  have hU10 := hU9.keep hk10 hubF
  have hE10 : Ext w w10 := Below.trans hE9 (hk10.below (Below.size hE9) hF2b)
  replace hd10 : DkM F2 p s3L 2 M3 w10 := hd10
  clear kc hKL hU9 hU8 hd8 hX9 hX8 hk10 ku hd7 hd7' hE7 hE8 hE9
  have kr := dread hd10 3 (by decide) (by decide) (by decide)
  rw [has3L] at kr
  replace kr := hideit kr
  go_upto_region 8 with (fail)
  refine wp_region_lit ?_
  refine wpList_run rfl (.pointer (some ⟨p, 0, none⟩)) (by simp [go_sem]) ?_
  simp only [Act.put, List.setIfInBounds_toArray, List.set_cons_zero, List.set_cons_succ]
  refine wpList_call rfl (by simp [go_sem]) ((kr.out).mono ?_)
  rintro e w11 ⟨v11, rfl, hO11, hX11⟩
  refine ⟨_, rfl, ?_⟩
  simp only [Act.put, List.setIfInBounds_toArray, List.set_cons_zero, List.set_cons_succ]
  obtain ⟨o11, c11, rfl⟩ := b512 hO11
  refine wpList_run rfl (.tuple #[.slice o11 512 c11, .int .i64 0]) (by simp [go_sem]) ?_
  simp only [Act.put, List.setIfInBounds_toArray, List.set_cons_zero, List.set_cons_succ]
  refine wpList_run rfl (.slice o11 512 c11) (by simp [go_sem]) ?_
  simp only [Act.put, List.setIfInBounds_toArray, List.set_cons_zero, List.set_cons_succ]
  refine wpList_run rfl (.int .i64 0) (by simp [go_sem]) ?_
  simp only [Act.put, List.setIfInBounds_toArray, List.set_cons_zero, List.set_cons_succ]
  refine wpList_run rfl (.slice o11 512 c11) (by simp [go_sem]) ?_
  simp only [Act.put, List.setIfInBounds_toArray, List.set_cons_zero, List.set_cons_succ]
  refine wpList_run rfl (.int .i64 0) (by simp [go_sem]) ?_
  simp only [Act.put, List.setIfInBounds_toArray, List.set_cons_zero, List.set_cons_succ]
  have hd11 := hd10.ext hX11
  have hU11 := hU10.carry hX11
  have hE11 := hideit (Ext.trans hE10 hX11)
  clear kr hd10 hU10 hX11 hE10
  have kr := hideit (dread_bad hd11 4 (by decide))
  go_upto_region 9 with (fail)
  refine wp_region_lit ?_
  refine wpList_run rfl (.pointer (some ⟨p, 0, none⟩)) (by simp [go_sem]) ?_
  simp only [Act.put, List.setIfInBounds_toArray, List.set_cons_zero, List.set_cons_succ]
  refine wpList_call rfl (by simp [go_sem]) ((kr.out).mono ?_)
  rintro e w12 ⟨rfl, hw12⟩
  refine ⟨_, rfl, ?_⟩
  simp only [Act.put, List.setIfInBounds_toArray, List.set_cons_zero, List.set_cons_succ]
  rw [hw12]
  clear kr hw12
  refine wpList_run rfl (.tuple #[.slice none 0 0, .int .i64 100]) (by simp [go_sem]) ?_
  simp only [Act.put, List.setIfInBounds_toArray, List.set_cons_zero, List.set_cons_succ]
  refine wpList_run rfl (.slice none 0 0) (by simp [go_sem]) ?_
  simp only [Act.put, List.setIfInBounds_toArray, List.set_cons_zero, List.set_cons_succ]
  refine wpList_run rfl (.int .i64 100) (by simp [go_sem]) ?_
  simp only [Act.put, List.setIfInBounds_toArray, List.set_cons_zero, List.set_cons_succ]
  refine wpList_run rfl (.slice none 0 0) (by simp [go_sem]) ?_
  simp only [Act.put, List.setIfInBounds_toArray, List.set_cons_zero, List.set_cons_succ]
  refine wpList_run rfl (.int .i64 100) (by simp [go_sem]) ?_
  simp only [Act.put, List.setIfInBounds_toArray, List.set_cons_zero, List.set_cons_succ]
  obtain ⟨s1, hs1⟩ : ∃ s1, s1 = bstr 512 (fun t => ((blkF 1 (cF 120) t).toNat : Int)) := ⟨_, rfl⟩
  have hD : Ext w11 w11.drew := (Ext.refl w11).draw
  have ca : ∀ X, Ext w11.drew X → (convert 31 9 (.slice o11 512 c11)).run Try.prog X = .ok (.string s1) X := fun X hX => by rw [hs1]; exact convV _ _ _ X (hO11.bv.ext (Ext.trans hD hX))
  obtain ⟨w13, hcv13, hbv13, hX13⟩ := constB w11.drew #[.int .u8 120] 1 (cF 120) (fun j hj => by
    have : j = 0 := by omega
    subst this
    rfl)
  have kb := hideit (block_any _ 1 _ w13 hbv13 (by unfold maxLen; decide))
  have hd12 := hd11.ext hD
  have hU12 := hideit (hU11.carry hD)
  replace hs1 := hideit hs1
  clear hd11 hU11 hO11
  go_upto_region 10 with (fail)
  refine wp_region_lad (fun X => Ext w11.drew X) [(false, 0), (false, 1), (false, 2), (false, 3), (false, 4), (false, 5), (false, 6), (false, 7), (false, 8), (false, 9), (false, 10), (false, 11), (false, 12), (false, 13), (false, 14), (false, 15), (false, 16), (false, 17), (false, 18), (false, 19), (false, 20), (true, 21), (true, 22), (true, 23), (false, 24), (false, 25), (false, 26), (false, 27), (false, 28), (false, 29), (false, 30), (false, 31), (false, 32), (true, 33), (false, 34), (false, 35), (false, 36)] (by kernel_rfl) (by kernel_rfl) (by decide +kernel) (by decide +kernel) (by decide +kernel) (by decide +kernel) (Ext.refl _) ?_
  generalize w11.drew = wd at *
  refine wpX_f _ (.slice (some ⟨ub, 0, none⟩) 1 ucap) rfl rfl (fun X _ => by simp [go_sem]) ?_
  simp only [List.getElem_toArray, List.getElem_cons_zero, Act.put, List.setIfInBounds_toArray, List.set_cons_zero, List.set_cons_succ]
  refine wpX_f _ (.int .i64 1) rfl rfl (fun X _ => by simp [go_sem]) ?_
  simp only [List.getElem_toArray, List.getElem_cons_zero, List.getElem_cons_succ, Act.put, List.setIfInBounds_toArray, List.set_cons_zero, List.set_cons_succ]
  refine wpX_f _ (.bool true) rfl rfl (fun X _ => by simp [go_sem]) ?_
  simp only [List.getElem_toArray, List.getElem_cons_zero, List.getElem_cons_succ, Act.put, List.setIfInBounds_toArray, List.set_cons_zero, List.set_cons_succ]
  refine wpX_f _ (.bool true) rfl rfl (fun X _ => by simp [go_sem]) ?_
  simp only [List.getElem_toArray, List.getElem_cons_zero, List.getElem_cons_succ, Act.put, List.setIfInBounds_toArray, List.set_cons_zero, List.set_cons_succ]
  refine wpX_f _ (.slice (some ⟨ub, 0, none⟩) 1 ucap) rfl rfl (fun X _ => by simp [go_sem]) ?_
  simp only [List.getElem_toArray, List.getElem_cons_zero, List.getElem_cons_succ, Act.put, List.setIfInBounds_toArray, List.set_cons_zero, List.set_cons_succ]
  refine wpX_f _ (.pointer (some ⟨ub, 0, none⟩)) rfl rfl (fun X _ => by simp [go_sem]) ?_
  simp only [List.getElem_toArray, List.getElem_cons_zero, List.getElem_cons_succ, Act.put, List.setIfInBounds_toArray, List.set_cons_zero, List.set_cons_succ]
  refine wpX_f _ (.agg (row 2 (kpI 3 2)).toArray) rfl rfl (fun X hX => exec_loadR 65 (.tmp 50) rfl ub 0 2 _ rfl (hU12.out.carry hX).range Try.underlying65 rfl info65) ?_
  simp only [List.getElem_toArray, List.getElem_cons_zero, List.getElem_cons_succ, Act.put, List.setIfInBounds_toArray, List.set_cons_zero, List.set_cons_succ]
  refine wpX_f _ (.agg #[.int .i64 3, .int .i64 2]) rfl rfl (fun X _ => by simp [go_sem]) ?_
  simp only [List.getElem_toArray, List.getElem_cons_zero, List.getElem_cons_succ, Act.put, List.setIfInBounds_toArray, List.set_cons_zero, List.set_cons_succ]
  refine wpX_f _ (.bool true) rfl rfl (fun X hX => exec_cmp .eql 65 65 (.tmp 51) (.tmp 52) rfl _ _ rfl rfl (by kernel_rfl) true (eq32 X)) ?_
  simp only [List.getElem_toArray, List.getElem_cons_zero, List.getElem_cons_succ, Act.put, List.setIfInBounds_toArray, List.set_cons_zero, List.set_cons_succ]
  refine wpX_f _ (.bool true) rfl rfl (fun X _ => by simp [go_sem]) ?_
  simp only [List.getElem_toArray, List.getElem_cons_zero, List.getElem_cons_succ, Act.put, List.setIfInBounds_toArray, List.set_cons_zero, List.set_cons_succ]
  refine wpX_f _ (.bool true) rfl rfl (fun X _ => by simp [go_sem]) ?_
  simp only [List.getElem_toArray, List.getElem_cons_zero, List.getElem_cons_succ, Act.put, List.setIfInBounds_toArray, List.set_cons_zero, List.set_cons_succ]
  refine wpX_f _ (.int .i64 0) rfl rfl (fun X _ => by simp [go_sem]) ?_
  simp only [List.getElem_toArray, List.getElem_cons_zero, List.getElem_cons_succ, Act.put, List.setIfInBounds_toArray, List.set_cons_zero, List.set_cons_succ]
  refine wpX_f _ (.bool true) rfl rfl (fun X _ => by simp [go_sem]) ?_
  simp only [List.getElem_toArray, List.getElem_cons_zero, List.getElem_cons_succ, Act.put, List.setIfInBounds_toArray, List.set_cons_zero, List.set_cons_succ]
  refine wpX_f _ (.bool true) rfl rfl (fun X _ => by simp [go_sem]) ?_
  simp only [List.getElem_toArray, List.getElem_cons_zero, List.getElem_cons_succ, Act.put, List.setIfInBounds_toArray, List.set_cons_zero, List.set_cons_succ]
  refine wpX_f _ (.bool true) rfl rfl (fun X _ => by simp [go_sem]) ?_
  simp only [List.getElem_toArray, List.getElem_cons_zero, List.getElem_cons_succ, Act.put, List.setIfInBounds_toArray, List.set_cons_zero, List.set_cons_succ]
  refine wpX_f _ (.int .i64 0) rfl rfl (fun X _ => by simp [go_sem]) ?_
  simp only [List.getElem_toArray, List.getElem_cons_zero, List.getElem_cons_succ, Act.put, List.setIfInBounds_toArray, List.set_cons_zero, List.set_cons_succ]
  refine wpX_f _ (.bool true) rfl rfl (fun X _ => by simp [go_sem]) ?_
  simp only [List.getElem_toArray, List.getElem_cons_zero, List.getElem_cons_succ, Act.put, List.setIfInBounds_toArray, List.set_cons_zero, List.set_cons_succ]
  refine wpX_f _ (.bool true) rfl rfl (fun X _ => by simp [go_sem]) ?_
  simp only [List.getElem_toArray, List.getElem_cons_zero, List.getElem_cons_succ, Act.put, List.setIfInBounds_toArray, List.set_cons_zero, List.set_cons_succ]
  refine wpX_f _ (.bool true) rfl rfl (fun X _ => by simp [go_sem]) ?_
  simp only [List.getElem_toArray, List.getElem_cons_zero, List.getElem_cons_succ, Act.put, List.setIfInBounds_toArray, List.set_cons_zero, List.set_cons_succ]
  refine wpX_f _ (.slice o11 512 c11) rfl rfl (fun X _ => by simp [go_sem]) ?_
  simp only [List.getElem_toArray, List.getElem_cons_zero, List.getElem_cons_succ, Act.put, List.setIfInBounds_toArray, List.set_cons_zero, List.set_cons_succ]
  refine wpX_f _ (.string s1) rfl rfl (fun X hX => by have e := ca X hX; simp [go_sem, e]) ?_
  simp only [List.getElem_toArray, List.getElem_cons_zero, List.getElem_cons_succ, Act.put, List.setIfInBounds_toArray, List.set_cons_zero, List.set_cons_succ]
  refine wpX_to _ (.slice (some ⟨wd.heap.size, 0, none⟩) 1 1) (wd.alloc (.cells #[.int .u8 120] 5)) rfl rfl (by simp [go_sem]) (fun X => Ext wd X) (fun X hX => hX) ((Below.refl _ _).alloc (Nat.le_refl _) _) ?_
  simp only [List.getElem_toArray, List.getElem_cons_zero, List.getElem_cons_succ, Act.put, List.setIfInBounds_toArray, List.set_cons_zero, List.set_cons_succ]
  refine wpX_to _ (.slice (some ⟨wd.heap.size, 0, none⟩) 1 1) w13 rfl rfl (by simp [go_sem, hcv13]) (fun X => Ext wd X) (fun X hX => hX) hX13 ?_
  simp only [List.getElem_toArray, List.getElem_cons_zero, List.getElem_cons_succ, Act.put, List.setIfInBounds_toArray, List.set_cons_zero, List.set_cons_succ]
  refine wpX_call _ rfl rfl (by simp [go_sem]) (kb.out.mono ?_)
  rintro e w14 ⟨v14, rfl, hO14, hX14⟩
  obtain ⟨o14, c14, rfl⟩ := b512 hO14
  have hE14 := Ext.trans hX13 hX14
  have cb : ∀ X, Ext w14 X → (convert 31 9 (.slice o14 512 c14)).run Try.prog X = .ok (.string s1) X := fun X hX => by rw [hs1.out]; exact convV _ _ _ X (hO14.bv.ext hX)
  have kl := hideit (dlen (hd12.ext hE14))
  refine ⟨_, rfl, fun X => Ext w14 X, fun X hX => Ext.trans hE14 hX, Ext.refl _, ?_⟩
  simp only [List.getElem_toArray, List.getElem_cons_zero, List.getElem_cons_succ, Act.put, List.setIfInBounds_toArray, List.set_cons_zero, List.set_cons_succ]
  refine wpX_f _ (.string s1) rfl rfl (fun X hX => by have e := cb X hX; simp [go_sem, e]) ?_
  simp only [List.getElem_toArray, List.getElem_cons_zero, List.getElem_cons_succ, Act.put, List.setIfInBounds_toArray, List.set_cons_zero, List.set_cons_succ]
  refine wpX_f _ (.bool true) rfl rfl (fun X _ => by simp [go_sem]) ?_
  simp only [List.getElem_toArray, List.getElem_cons_zero, List.getElem_cons_succ, Act.put, List.setIfInBounds_toArray, List.set_cons_zero, List.set_cons_succ]
  refine wpX_f _ (.bool true) rfl rfl (fun X _ => by simp [go_sem]) ?_
  simp only [List.getElem_toArray, List.getElem_cons_zero, List.getElem_cons_succ, Act.put, List.setIfInBounds_toArray, List.set_cons_zero, List.set_cons_succ]
  refine wpX_f _ (.bool true) rfl rfl (fun X _ => by simp [go_sem]) ?_
  simp only [List.getElem_toArray, List.getElem_cons_zero, List.getElem_cons_succ, Act.put, List.setIfInBounds_toArray, List.set_cons_zero, List.set_cons_succ]
  refine wpX_f _ (.int .i64 100) rfl rfl (fun X _ => by simp [go_sem]) ?_
  simp only [List.getElem_toArray, List.getElem_cons_zero, List.getElem_cons_succ, Act.put, List.setIfInBounds_toArray, List.set_cons_zero, List.set_cons_succ]
  refine wpX_f _ (.bool true) rfl rfl (fun X _ => by simp [go_sem]) ?_
  simp only [List.getElem_toArray, List.getElem_cons_zero, List.getElem_cons_succ, Act.put, List.setIfInBounds_toArray, List.set_cons_zero, List.set_cons_succ]
  refine wpX_f _ (.bool true) rfl rfl (fun X _ => by simp [go_sem]) ?_
  simp only [List.getElem_toArray, List.getElem_cons_zero, List.getElem_cons_succ, Act.put, List.setIfInBounds_toArray, List.set_cons_zero, List.set_cons_succ]
  refine wpX_f _ (.bool true) rfl rfl (fun X _ => by simp [go_sem]) ?_
  simp only [List.getElem_toArray, List.getElem_cons_zero, List.getElem_cons_succ, Act.put, List.setIfInBounds_toArray, List.set_cons_zero, List.set_cons_succ]
  refine wpX_f _ (.pointer (some ⟨p, 0, none⟩)) rfl rfl (fun X _ => by simp [go_sem]) ?_
  simp only [List.getElem_toArray, List.getElem_cons_zero, List.getElem_cons_succ, Act.put, List.setIfInBounds_toArray, List.set_cons_zero, List.set_cons_succ]
  refine wpX_call _ rfl rfl (by simp [go_sem]) (kl.out.mono ?_)
  rintro e w15 ⟨rfl, hw15⟩
  rw [hw15]
  refine ⟨_, rfl, fun X => Ext w14 X, fun X hX => hX, Ext.refl _, ?_⟩
  simp only [List.getElem_toArray, List.getElem_cons_zero, List.getElem_cons_succ, Act.put, List.setIfInBounds_toArray, List.set_cons_zero, List.set_cons_succ]
  refine wpX_f _ (.bool true) rfl rfl (fun X _ => by simp [go_sem, show s3L.N = 4 from rfl]) ?_
  simp only [List.getElem_toArray, List.getElem_cons_zero, List.getElem_cons_succ, Act.put, List.setIfInBounds_toArray, List.set_cons_zero, List.set_cons_succ]
  refine wpX_f _ (.bool true) rfl rfl (fun X _ => by simp [go_sem]) ?_
  simp only [List.getElem_toArray, List.getElem_cons_zero, List.getElem_cons_succ, Act.put, List.setIfInBounds_toArray, List.set_cons_zero, List.set_cons_succ]
  refine wpX_f _ (.bool true) rfl rfl (fun X _ => by simp [go_sem]) ?_
  simp only [List.getElem_toArray, List.getElem_cons_zero, List.getElem_cons_succ, Act.put, List.setIfInBounds_toArray, List.set_cons_zero]
  refine wpX_nil ?_
  have hfin := hideit (Ext.trans (Ext.trans hE11.out hD) hE14)
  clear kl cb ca kb hw15 hX13 hX14 hE14 hcv13 hbv13 hd12
  go_wp2
  go_ret
  exact ⟨rfl, hfin.out⟩
end Go.Proofs.Ytfaeieaelfjlpaa
