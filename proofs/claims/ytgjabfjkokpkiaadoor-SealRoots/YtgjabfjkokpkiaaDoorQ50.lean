/-
  A root's block, there and back. Bytes of one's own that grow.
-/
import Derived.Test.YtgjabfjkokpkiaaDoorQ49
import Derived.Test.YtgjabfjkokpkiaaDoorQ21
import Derived.Test.YtgjabfjkokpkiaaDoorQ18
import Derived.Test.YtgjabfjkokpkiaaDoorQ7
import Derived.Test.YtgjabfjkokpkiaaDoorQ19
namespace Go.Proofs.YtgjabfjkokpkiaaDoor
open Go.RowKit Go.BigFrame
set_option linter.unusedVariables false
set_option maxRecDepth 20000
theorem leS_congr {f g : Nat → BitVec 8} : ∀ n, (∀ j, j < n → f j = g j) → leS f n = leS g n
  | 0, _ => rfl
  | n + 1, h => by
    show leS f n + (f n).toNat * 2 ^ (8 * n) = leS g n + (g n).toNat * 2 ^ (8 * n)
    rw [leS_congr n (fun j hj => h j (by omega)), h n (by omega)]
theorem leS_by (x : BitVec 64) : ∀ n, leS (byB x) n = x.toNat % 2 ^ (8 * n)
  | 0 => by show 0 = x.toNat % 1; omega
  | n + 1 => by
    show leS (byB x) n + (byB x n).toNat * 2 ^ (8 * n) = _
    rw [leS_by x n, show 8 * (n + 1) = 8 * n + 8 by omega, Nat.pow_add, Nat.mod_mul]
    unfold byB
    rw [BitVec.toNat_setWidth, BitVec.toNat_ushiftRight, Nat.shiftRight_eq_div_pow, Nat.mul_comm (2 ^ (8 * n))]
theorem leN_by {f : Nat → BitVec 8} (x : BitVec 64) (n : Nat) (hn : n ≤ 8) (h : ∀ j, j < n → f j = byB x j) (hx : x.toNat < 2 ^ (8 * n)) : leN f n = x := by
  apply BitVec.eq_of_toNat_eq
  rw [(leN_nat f n hn).1, leS_congr n h, leS_by, Nat.mod_eq_of_lt hx]
theorem rb_parts (g : BitVec 64) (b : Bool) (s : Nat) (H : Nat → BitVec 8) : (∀ j, j < 8 → rbF g b s H (4 + j) = byB g j) ∧ rbF g b s H 12 = byB (fl b) 0 ∧ (∀ j, j < 4 → rbF g b s H (13 + j) = byB (n4 s) j) ∧ ∀ j, rbF g b s H (17 + j) = H j := by
  refine ⟨fun j hj => ?_, rfl, fun j hj => ?_, fun j => ?_⟩
  · unfold rbF catF
    rw [if_pos (by omega), if_pos (by omega), if_pos (by omega), if_neg (by omega), Nat.add_sub_cancel_left]
  · unfold rbF catF
    rw [if_pos (by omega), if_neg (by omega), Nat.add_sub_cancel_left]
  · unfold rbF catF
    rw [if_neg (by omega), Nat.add_sub_cancel_left]
theorem rt_of {f : Nat → BitVec 8} {g g' : BitVec 64} {b b' : Bool} {s s' l : Nat} {H H' : Nat → BitVec 8} (hl : 49 ≤ l) (hs : s < 4294967296) (hR : RtOf l f g' b' s' H') (hf : ∀ j, j < 49 → f j = rbF g b s H j) : g' = g ∧ b' = b ∧ s' = s ∧ ∀ j, j < 32 → H' j = H j := by
  obtain ⟨h1, h2, h3, h4⟩ := hR hl
  obtain ⟨q1, q2, q3, q4⟩ := rb_parts g b s H
  refine ⟨?_, ?_, ?_, fun j hj => ?_⟩
  · rw [h1]
    exact leN_by g 8 (by omega) (fun j hj => (hf _ (by omega)).trans (q1 j hj)) g.isLt
  · rw [h2, show leN (shF f 12) 1 = fl b from leN_by _ 1 (by omega) (fun j hj => by
      obtain rfl : j = 0 := by omega
      exact (hf 12 (by omega)).trans q2) (by have := fl_lt b; cases b <;> decide)]
    cases b <;> decide
  · rw [h3, show leN (shF f 13) 4 = n4 s from leN_by _ 4 (by omega) (fun j hj => (hf _ (by omega)).trans (q3 j hj)) (by rw [n4_nat hs]; exact hs), n4_nat hs]
  · rw [h4 j hj, hf _ (by omega), q4]
theorem rk_rb (K : Nat → BitVec 8) (h : Hd) (g : BitVec 64) (b : Bool) (s : Nat) (H : Nat → BitVec 8) (j : Nat) (hj : j < 49) : rkF K h g b s H j = rbF g b s H j := by unfold rkF; rw [if_pos hj]
theorem rtV_congr {g : BitVec 64} {b : Bool} {s : Int} {H H' : Nat → BitVec 8} (h : ∀ j, j < 32 → H j = H' j) : row 35 (rtV g b s H) = row 35 (rtV g b s H') := row_ext fun j hj => by
  unfold rtV yv
  by_cases e0 : j = 0
  · rw [if_pos e0, if_pos e0]
  · by_cases e1 : j = 1
    · rw [if_neg e0, if_neg e0, if_pos e1, if_pos e1]
    · by_cases e2 : j = 2
      · rw [if_neg e0, if_neg e0, if_neg e1, if_neg e1, if_pos e2, if_pos e2]
      · rw [if_neg e0, if_neg e0, if_neg e1, if_neg e1, if_neg e2, if_neg e2, h _ (by omega)]
theorem cat_congr2 {m m' b b' : Nat → BitVec 8} {n k : Nat} (h1 : ∀ i, i < n → m i = m' i) (h2 : ∀ i, i < k → b i = b' i) (j : Nat) (hj : j < n + k) : catF m n b j = catF m' n b' j := by
  unfold catF
  by_cases e : j < n
  · rw [if_pos e, if_pos e, h1 j e]
  · rw [if_neg e, if_neg e, h2 _ (by omega)]
theorem rbF_congr {g : BitVec 64} {b : Bool} {s : Nat} {H H' : Nat → BitVec 8} (h : ∀ j, j < 32 → H j = H' j) : ∀ j, j < 49 → rbF g b s H j = rbF g b s H' j := cat_congr2 (k := 32) (fun _ _ => rfl) h
theorem rkF_congr {K : Nat → BitVec 8} {h : Hd} {g : BitVec 64} {b : Bool} {s : Nat} {H H' : Nat → BitVec 8} (hH : ∀ j, j < 32 → H j = H' j) (j : Nat) : rkF K h g b s H j = rkF K h g b s H' j := by
  have e : rgF K h g b s H = rgF K h g b s H' := by
    unfold rgF
    refine tagF_congr 32 K _ _ 69 fun j hj => ?_
    show catF (catF (catF (fun _ => 0#8) 0 (rbF g b s H)) 49 h.nm) 65 (numB h.se.toNat) j = catF (catF (catF (fun _ => 0#8) 0 (rbF g b s H')) 49 h.nm) 65 (numB h.se.toNat) j
    refine cat_congr2 (k := 4) (fun i hi => ?_) (fun _ _ => rfl) j hj
    refine cat_congr2 (k := 16) (fun i hi => ?_) (fun _ _ => rfl) i hi
    refine cat_congr2 (n := 0) (k := 49) (fun _ q => by omega) (rbF_congr hH) i (by omega)
  unfold rkF
  rw [e]
  by_cases q : j < 49
  · rw [if_pos q, if_pos q, rbF_congr hH j q]
  · rw [if_neg q, if_neg q]
theorem rr_yes (K : Nat → BitVec 8) (h : Hd) (v : Value) (l : Nat) (f : Nat → BitVec 8) (w : World) (hV : BV v l f w) (hC : TabC w) (hl : l ≤ 140737488351232) (hk : okH h) (g : BitVec 64) (b : Bool) (s : Nat) (H : Nat → BitVec 8) (hs : s < 4294967296) (hi : isRt K h l f g b s H) : Calls Tryd.prog 14 #[.agg (row 32 (yv K)).toArray, .agg (row 24 (hdv h)).toArray, v] w fun e w' => e = .returned (.tuple #[.agg (row 35 (rtV g b (s : Int) H)).toArray, .int .i64 0]) ∧ Ext w w' := by
  refine (rr_any K h v l f w hV hC hl hk).mono ?_
  rintro e w' ⟨g', b', s', H', hs', hR, hq, hE⟩
  obtain ⟨i1, i2, i3⟩ := hi
  obtain ⟨rfl, rfl, rfl, hH⟩ := rt_of (by omega) hs hR fun j hj => (i3 j (by omega)).trans (rk_rb K h g b s H j hj)
  rcases hq with ⟨_, he⟩ | ⟨hn, _⟩
  · rw [rtV_congr hH] at he
    exact ⟨he, hE⟩
  · exact absurd ⟨i1, i2, fun j hj => (i3 j hj).trans (rkF_congr (fun j hj => (hH j hj).symm) j)⟩ hn
theorem rr_no (K : Nat → BitVec 8) (h : Hd) (v : Value) (l : Nat) (f : Nat → BitVec 8) (w : World) (hV : BV v l f w) (hC : TabC w) (hl : l ≤ 140737488351232) (hk : okH h) (hi : ∀ g b s H, s < 4294967296 → ¬ isRt K h l f g b s H) : Calls Tryd.prog 14 #[.agg (row 32 (yv K)).toArray, .agg (row 24 (hdv h)).toArray, v] w fun e w' => e = .returned (.tuple #[.agg (row 35 (rtV 0#64 false 0 fun _ => 0#8)).toArray, .int .i64 160]) ∧ Ext w w' := by
  refine (rr_any K h v l f w hV hC hl hk).mono ?_
  rintro e w' ⟨g', b', s', H', hs', hR, hq, hE⟩
  rcases hq with ⟨hy, _⟩ | ⟨_, he⟩
  · exact absurd hy (hi _ _ _ _ hs')
  · exact ⟨he, hE⟩
end Go.Proofs.YtgjabfjkokpkiaaDoor
namespace Go.Proofs.YtgjabfjkokpkiaaDoor
open Go.RowKit Go.BigFrame
set_option linter.unusedVariables false
set_option maxRecDepth 20000
def GB (w0 : World) (v : Value) (n : Nat) (f : Nat → BitVec 8) (X : World) : Prop := OwnB w0.heap.size 5 v n (yv f) X ∧ Ext w0 X
theorem GB.ext {w0 : World} {v : Value} {n : Nat} {f : Nat → BitVec 8} {X Y : World} (h : GB w0 v n f X) (k : Ext X Y) : GB w0 v n f Y := ⟨h.1.ext k, Ext.trans h.2 k⟩
theorem GB.bv {w0 : World} {v : Value} {n : Nat} {f : Nat → BitVec 8} {X : World} (h : GB w0 v n f X) : BV v n f X := h.1.bv
theorem GB.form {w0 : World} {v : Value} {n : Nat} {f : Nat → BitVec 8} {X : World} (h : GB w0 v n f X) : ∃ o c, v = .slice o n c := h.1.bv.form
theorem GB.congr {w0 : World} {v : Value} {n m : Nat} {f g : Nat → BitVec 8} {X : World} (h : GB w0 v n f X) (hn : n = m) (e : ∀ j, j < n → f j = g j) : GB w0 v m g X := by
  subst hn
  exact ⟨h.1.congr fun j hj => by simp only [yv, e j hj], h.2⟩
theorem GB.nil (w0 : World) {X : World} (h : Ext w0 X) (f : Nat → BitVec 8) : GB w0 (.slice none 0 0) 0 f X := ⟨own_nil _ _ _ _, h⟩
theorem GB.empty (w0 : World) {X : World} (h : Ext w0 X) (f : Nat → BitVec 8) : GB w0 (.slice (some ⟨X.heap.size, 0, none⟩) 0 0) 0 f (X.alloc (.cells #[] 5)) := ⟨own_empty X _ 5 _ (Below.size h), Below.alloc h (Below.size h) _⟩
theorem GB.of {w0 : World} {v : Value} {n : Nat} {f : Nat → BitVec 8} {X Y : World} (h : Ext w0 X) (hO : OwnB X.heap.size 5 v n (yv f) Y) (k : Ext X Y) : GB w0 v n f Y := ⟨hO.down (Below.size h), Ext.trans h k⟩
theorem wpList_gb {ops : Array Oper} {rest : List Oper} {o : Oper} {a : Act} {Q : Exit → Act → World → Prop} {w0 X : World} {v : Value} {n : Nat} {f : Nat → BitVec 8} (hgd : o.guard = none) (s x : Operand)
    (ho : o.op = .call { callee := .builtin .append, args := #[s, x], argTypes := #[22, 22] }) (hs : a.eval s = v) (hG : GB w0 v n f X) (xv : Value) (l : Nat) (b : Nat → BitVec 8) (hx : a.eval x = xv) (hb : BV xv l b X) (hn : n + l ≤ 140737488355328)
    (h : ∀ v' X', GB w0 v' (n + l) (catF f n b) X' → wpList Tryd.prog ops Q rest (a.put o.dst v') X') : wpList Tryd.prog ops Q (o :: rest) a X := by
  refine wpList_growV (n := n) (base := w0.heap.size) elem22 hgd s x ho hs hG.1 xv l b (yv (catF f n b)) hx hb (fun j hj => by simp only [catF, yv, if_pos hj]) (fun j hj => by simp only [catF, yv, if_neg (show ¬ n + j < n by omega), Nat.add_sub_cancel_left]) hn (Below.size hG.2) ?_
  intro v' X' hO hg
  exact h v' X' ⟨hO, Below.trans hG.2 (below_grown (Below.size hG.2) hg fun k hk => (hG.1.lt k hk).1)⟩
theorem BV.congr {v : Value} {l : Nat} {f g : Nat → BitVec 8} {w : World} (h : BV v l f w) (e : ∀ j, j < l → f j = g j) : BV v l g w := by
  rcases h with h | ⟨a, c, h1, h2, h3⟩
  · exact .inl h
  · exact .inr ⟨a, c, h1, h2, fun j hj => by rw [h3.1 j hj]; simp only [yv, e j hj], h3.2⟩
theorem exec_append {P : Program} {o : Oper} {a : Act} {w w' : World} (s x : Operand) (t u : TypeId) (ho : o.op = .call { callee := .builtin .append, args := #[s, x], argTypes := #[t, u] }) (v y v' : Value) (hs : a.eval s = v) (hx : a.eval x = y) (hr : (Builtin.append_ #[t, u] o.type #[v, y]).run P w = .ok v' w') : (execOp a.eval o).run P w = .ok (.value v') w' := by
  unfold execOp
  simp only [ho, resolve, invoke, builtin, Sem.run_bind, Sem.run_pure, Result.andThen_ok, List.map_toArray, List.map_cons, List.map_nil, hs, hx, hr]
theorem run_gb {w0 X : World} {n : Nat} {v : Value} {f : Nat → BitVec 8} (ty : TypeId) (h : GB w0 v n f X) (xv : Value) (m : Nat) (b : Nat → BitVec 8) (hb : BV xv m b X) (hm : 0 < m) (hnm : n + m ≤ 1000000) :
    ∃ v' Y, (Builtin.append_ #[22, 22] ty #[v, xv]).run Tryd.prog X = .ok v' Y ∧ GB w0 v' (n + m) (catF f n b) Y := by
  rcases hb with ⟨_, h0⟩ | ⟨ad, c, rfl, _, hl⟩
  · omega
  obtain ⟨i, z, e1, e2, e3, e4, e5⟩ := elem22.info
  obtain ⟨v', w', h1, h2, h3, _⟩ := run_append_own (P := Tryd.prog) X w0.heap.size 22 ty 5 i z 1 1 elem22.slice e1 e2 e3 e4 e5 (by decide) v n (row n (yv f)) h.1 ad m c (row m (yv b)) (by rw [row_length, Nat.mul_one]) (fun j u hj => by
    obtain ⟨hj', rfl⟩ := row_some hj
    exact hl.1 j hj') (fun u hu => by
    obtain ⟨j, _, rfl⟩ := List.mem_map.1 hu
    rfl) (by unfold maxLen; omega) (by omega) (Below.size h.2)
  refine ⟨v', w', h1, ?_, Below.trans h.2 (below_grown (Below.size h.2) h3 fun k hk => (h.1.lt k hk).1)⟩
  unfold OwnB
  rw [row_append n m (yv f) (yv b) (yv (catF f n b)) (fun j hj => by simp only [yv]; unfold catF; rw [if_pos hj]) (fun j hj => by simp only [yv]; unfold catF; rw [if_neg (by omega), Nat.add_sub_cancel_left])] at h2
  exact h2
theorem run_gbC {w0 X : World} {n : Nat} {f : Nat → BitVec 8} (ty : TypeId) (hE : Ext w0 X) (ad0 : Addr) (hf : BV (.slice (some ad0) n n) n f X) (xv : Value) (m : Nat) (b : Nat → BitVec 8) (hb : BV xv m b X) (hm : 0 < m) (hnm : n + m ≤ 1000000) :
    ∃ v' Y, (Builtin.append_ #[22, 22] ty #[.slice (some ad0) n n, xv]).run Tryd.prog X = .ok v' Y ∧ GB w0 v' (n + m) (catF f n b) Y ∧ Ext X Y := by
  rcases hb with ⟨_, h0⟩ | ⟨ad, c, rfl, _, hl⟩
  · omega
  have hf' : LieAt ad0 n (yv f) X := by
    rcases hf with ⟨h, _⟩ | ⟨a', c, h, _, hl⟩
    · cases h
    · injection h with h
      injection h with h
      subst h
      exact hl
  obtain ⟨i, z, e1, e2, e3, e4, e5⟩ := elem22.info
  obtain ⟨v', Y, h1, h2, h3⟩ := run_append_arg_grows (P := Tryd.prog) X 22 ty 5 i z 1 1 elem22.slice e1 e2 e3 e4 e5 (by decide) ad0 n n (row n (yv f)) (by rw [row_length, Nat.mul_one]) (fun j u hj => by
    obtain ⟨hj', rfl⟩ := row_some hj
    exact hf'.1 j hj') ad m c (row m (yv b)) (by rw [row_length, Nat.mul_one]) (fun j u hj => by
    obtain ⟨hj', rfl⟩ := row_some hj
    exact hl.1 j hj') (by omega) (by unfold maxLen; omega) (by omega)
  have hXY : Ext X Y := ⟨h3.os, h3.tape, h3.output, h3.size, fun k hk => h3.block k hk (by simp)⟩
  refine ⟨v', Y, h1, GB.of hE ?_ hXY, hXY⟩
  unfold OwnB
  rw [row_append n m (yv f) (yv b) (yv (catF f n b)) (fun j hj => by simp only [yv]; unfold catF; rw [if_pos hj]) (fun j hj => by simp only [yv]; unfold catF; rw [if_neg (by omega), Nat.add_sub_cancel_left])] at h2
  exact h2
def MvS (B : Nat) (X Y : World) : Prop := Y.os = X.os ∧ Y.tape = X.tape ∧ Y.output = X.output ∧ X.heap.size ≤ Y.heap.size ∧ (∀ k, k < X.heap.size → k < B → Y.heap[k]? = X.heap[k]?) ∧ ∀ (k : Nat) (C : Array Value) (t : TypeId) (m : Nat × Nat), X.heap[k]? = some (.cells C t m) → (t ≠ 5 ∨ (1 ≤ C.size ∧ C.size ≤ 8)) → Y.heap[k]? = some (.cells C t m)
theorem mvs_ext {B : Nat} {X Y : World} (h : Ext X Y) : MvS B X Y := ⟨h.os, h.tape, h.output, Below.size h, fun k hk _ => h.block k hk, fun k C t m hk _ => (h.block k (Array.getElem?_eq_some_iff.1 hk).1).trans hk⟩
theorem gb_app {w0 X : World} {n : Nat} {v : Value} {f : Nat → BitVec 8} (ty : TypeId) (h : GB w0 v n f X) (hn9 : 9 ≤ n ∨ ∃ b, v = .slice b 0 0) (xv : Value) (m : Nat) (b : Nat → BitVec 8) (hb : BV xv m b X) (hm : 0 < m) (hnm : n + m ≤ 1000000) :
    ∃ v' Y, (Builtin.append_ #[22, 22] ty #[v, xv]).run Tryd.prog X = .ok v' Y ∧ GB w0 v' (n + m) (catF f n b) Y ∧ MvS w0.heap.size X Y := by
  rcases hb with ⟨_, h0⟩ | ⟨ad, c, rfl, _, hl⟩
  · omega
  obtain ⟨i, z, e1, e2, e3, e4, e5⟩ := elem22.info
  obtain ⟨v', w', h1, h2, h3, _⟩ := run_append_own (P := Tryd.prog) X w0.heap.size 22 ty 5 i z 1 1 elem22.slice e1 e2 e3 e4 e5 (by decide) v n (row n (yv f)) h.1 ad m c (row m (yv b)) (by rw [row_length, Nat.mul_one]) (fun j u hj => by
    obtain ⟨hj', rfl⟩ := row_some hj
    exact hl.1 j hj') (fun u hu => by
    obtain ⟨j, _, rfl⟩ := List.mem_map.1 hu
    rfl) (by unfold maxLen; omega) (by omega) (Below.size h.2)
  refine ⟨v', w', h1, ⟨?_, Below.trans h.2 (below_grown (Below.size h.2) h3 fun k hk => (h.1.lt k hk).1)⟩, h3.os, h3.tape, h3.output, h3.size, fun k hk hB => h3.block k hk fun e => by have := (h.1.lt k e.symm).1; omega, fun k C t mm hk ht => ?_⟩
  · unfold OwnB
    rw [row_append n m (yv f) (yv b) (yv (catF f n b)) (fun j hj => by simp only [yv]; unfold catF; rw [if_pos hj]) (fun j hj => by simp only [yv]; unfold catF; rw [if_neg (by omega), Nat.add_sub_cancel_left])] at h2
    exact h2
  · refine (h3.block k (Array.getElem?_eq_some_iff.1 hk).1 fun e => ?_).trans hk
    rcases h.1.2 with ⟨rfl, _⟩ | ⟨g, cap, cur, rfl, _, hg, hnc, _, hcs, _⟩
    · cases e
    · injection e with e
      subst e
      rw [hg] at hk
      injection hk with hk
      injection hk with q1 q2 q3
      subst q1 q2
      rcases ht with ht | ht
      · exact ht rfl
      · rcases hn9 with hn9 | ⟨b9, hn9⟩
        · omega
        · injection hn9 with _ q4 q5
          omega
end Go.Proofs.YtgjabfjkokpkiaaDoor
