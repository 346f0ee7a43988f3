/-
  Lists of blocks wherever their bytes lie. Many operations at once, each with the value that it gives: a row of steps in one. No word of the program.
-/
import Derived.Test.YtedgopionpdfeaaDoorQ40
import Derived.Test.YtedgopionpdfeaaDoorQ41
import Derived.Test.YtedgopionpdfeaaDoorQ36
namespace Go.Proofs.YtedgopionpdfeaaDoor
open Go.RowKit Go.BigFrame
set_option linter.unusedVariables false
/-- lists of blocks in memory of one's own, wherever their bytes lie -/
structure QLs (B : Nat) (v : Value) (m : Nat) (us : Nat → Value) (fs : Nat → Nat → BitVec 8) (X : World) : Prop where
  own : OwnB B 34 v m us X
  byt : ∀ i, i < m → ∃ a cp, us i = .slice (some a) 512 cp ∧ 512 ≤ cp ∧ LieAt a 512 (yv (fs i)) X ∧ v.ownBlock ≠ some a.block
def cut2 {α : Type} (m : Nat) (f g : Nat → α) : Nat → α := fun i => if i < m then f i else g (i - m)
section
variable {B : Nat} {v : Value} {m : Nat} {us : Nat → Value} {fs fs' : Nat → Nat → BitVec 8} {X Y : World}
theorem QLs.ext (h : QLs B v m us fs X) (k : Ext X Y) : QLs B v m us fs Y := ⟨h.own.ext k, fun i hi => by
  obtain ⟨a, cp, h1, h2, h3, h4⟩ := h.byt i hi
  exact ⟨a, cp, h1, h2, h3.carry k, h4⟩⟩
theorem QLs.congr (h : QLs B v m us fs X) (e : ∀ i, i < m → ∀ j, j < 512 → fs i j = fs' i j) : QLs B v m us fs' X := ⟨h.own, fun i hi => by
  obtain ⟨a, cp, h1, h2, h3, h4⟩ := h.byt i hi
  exact ⟨a, cp, h1, h2, ⟨fun j hj => by rw [h3.1 j hj]; unfold yv; rw [e i hi j hj], h3.2⟩, h4⟩⟩
theorem QLs.form (h : QLs B v m us fs X) : ∃ o cap, v = .slice o m cap := by
  rcases h.own.2 with ⟨e, q⟩ | ⟨g, cc, cur, e, _⟩
  · exact ⟨none, 0, by rw [e, q]⟩
  · exact ⟨_, _, e⟩
theorem QLs.bv (h : QLs B v m us fs X) (i : Nat) (hi : i < m) : BV (us i) 512 (fs i) X := by
  obtain ⟨a, cp, h1, h2, h3, h4⟩ := h.byt i hi
  exact .inr ⟨a, cp, h1, h2, h3⟩
theorem QLs.pl (h : QLs B v m us fs X) : PL v m us (fun _ => 512) fs X := by
  refine ⟨?_, fun i hi => (h.bv i hi).pv⟩
  by_cases hm : m = 0
  · subst hm
    rcases h.own.2 with ⟨e, q⟩ | ⟨g, cc, cur, e, _⟩
    · exact .inl ⟨e, rfl⟩
    · exact .inr ⟨_, _, e, Nat.zero_le _, fun j hj => absurd hj (Nat.not_lt_zero _)⟩
  · obtain ⟨b, cap, e, _, hc, _, hR⟩ := h.own.lies (by omega)
    exact .inr ⟨_, _, e, hc, fun j hj => by rw [add0]; exact hR.1 j hj⟩
theorem QLs.nil (w : World) (B : Nat) (us : Nat → Value) (fs : Nat → Nat → BitVec 8) : QLs B (.slice none 0 0) 0 us fs w := ⟨own_nil w B 34 us, fun i hi => absurd hi (Nat.not_lt_zero _)⟩
theorem QLs.at (h : QLs B v m us fs X) (hm : 0 < m) : ∃ g cap, v = .slice (some ⟨g, 0, none⟩) m cap ∧ B ≤ g ∧ m ≤ cap ∧ RowAt g m us X := by
  obtain ⟨b, cap, e, h1, hc, _, hR⟩ := h.own.lies hm
  exact ⟨b, cap, e, h1, hc, hR⟩
theorem QLs.appL (h : QLs B v m us fs X) (hB : B ≤ X.heap.size) (k : Nat) (ad : Addr) (c : Nat) (us2 : Nat → Value) (fs2 : Nat → Nat → BitVec 8) (hl : ∀ j, j < k → X.cell? (ad.add j) = some (us2 j))
    (hb : ∀ i, i < k → ∃ a cp, us2 i = .slice (some a) 512 cp ∧ 512 ≤ cp ∧ LieAt a 512 (yv (fs2 i)) X ∧ v.ownBlock ≠ some a.block) (hm : m + k ≤ 1000000) (ty : TypeId) :
    ∃ v' Y, (Builtin.append_ #[24, 24] ty #[v, .slice (some ad) k c]).run Tryd.prog X = .ok v' Y ∧ QLs B v' (m + k) (cut2 m us us2) (cut2 m fs fs2) Y ∧ Below B X Y := by
  obtain ⟨i, zz, e1, e2, e3, e4, e5⟩ := elem24.info
  obtain ⟨v', Y, a1, a2, a3, _, a5⟩ := run_append_own_at (P := Tryd.prog) X B 24 ty 34 i zz 1 24 elem24.slice e1 e2 e3 e4 e5 (by decide) v m (row m us) h.own ad k c (row k us2) (by rw [row_length, Nat.mul_one]) (fun j x hj => by
    obtain ⟨hj', rfl⟩ := row_some hj
    exact hl j hj') (fun x hx => by
    obtain ⟨j, hj, rfl⟩ := List.mem_map.1 hx
    obtain ⟨a, cp, q, _⟩ := hb j (by simpa using hj)
    rw [q]
    rfl) (by unfold maxLen; omega) (by omega) hB
  have hkeep : ∀ {z' : Addr} {g : Nat → BitVec 8}, LieAt z' 512 (yv g) X → v.ownBlock ≠ some z'.block → LieAt z' 512 (yv g) Y := fun {z' g} hl hn => ⟨fun j hj => (World.cell?_of_block (a := z'.add j) (by rw [add_block]; exact a3.block z'.block hl.2 (fun e => hn e.symm))).trans (hl.1 j hj), Nat.lt_of_lt_of_le hl.2 a3.size⟩
  have hown : ∀ z', z' < X.heap.size → v.ownBlock ≠ some z' → v'.ownBlock ≠ some z' := fun z' hz' hn e => by
    rcases a5 with q | q
    · exact hn (q ▸ e)
    · rw [q] at e
      injection e with e
      omega
  refine ⟨v', Y, a1, ⟨?_, fun j hj => ?_⟩, below_grown hB a3 fun q hq => (h.own.lt q hq).1⟩
  · unfold OwnB
    rw [← row_append m k us us2 _ (fun j hj => by unfold cut2; rw [if_pos hj]) (fun j hj => by unfold cut2; rw [if_neg (by omega), Nat.add_sub_cancel_left])]
    exact a2
  · unfold cut2
    by_cases e : j < m
    · rw [if_pos e, if_pos e]
      obtain ⟨z', cp', q1, q2, q3, q4⟩ := h.byt j e
      exact ⟨z', cp', q1, q2, hkeep q3 q4, hown z'.block q3.2 q4⟩
    · rw [if_neg e, if_neg e]
      obtain ⟨z', cp', q1, q2, q3, q4⟩ := hb (j - m) (by omega)
      exact ⟨z', cp', q1, q2, hkeep q3 q4, hown z'.block q3.2 q4⟩
/-- one block more: it lies in a block just made -/
theorem QLs.app1 (h : QLs B v m us fs X) (hB : B ≤ X.heap.size) (a : Addr) (cp : Nat) (f : Nat → BitVec 8) (hcp : 512 ≤ cp) (hz : LieAt a 512 (yv f) X) (hne : v.ownBlock ≠ some a.block) (hm : m + 1 ≤ 1000000) (ty : TypeId) :
    ∃ v' Y, (Builtin.append_ #[24, 24] ty #[v, .slice (some ⟨X.heap.size, 0, none⟩) 1 1]).run Tryd.prog (X.alloc (.cells #[.slice (some a) 512 cp] 34)) = .ok v' Y ∧ QLs B v' (m + 1) (up1 us m (.slice (some a) 512 cp)) (up1 fs m f) Y ∧ Below B X Y := by
  have hX1 : Ext X (X.alloc (.cells #[.slice (some a) 512 cp] 34)) := (Below.refl _ _).alloc (Nat.le_refl _) _
  have hr := row_new1 X (.slice (some a) 512 cp) 34
  obtain ⟨v', Y, q1, q2, q3⟩ := (h.ext hX1).appL (Nat.le_trans hB (Below.size hX1)) 1 ⟨X.heap.size, 0, none⟩ 1 (fun _ => .slice (some a) 512 cp) (fun _ => f) (fun j hj => by rw [add0]; exact hr.1 j hj) (fun i hi => ⟨a, cp, rfl, hcp, hz.carry hX1, hne⟩) hm ty
  refine ⟨v', Y, q1, ?_, Below.trans (Below.mono hX1 hB) q3⟩
  have e : ∀ {α : Type} (f : Nat → α) (x : α) (j : Nat), j < m + 1 → cut2 m f (fun _ => x) j = up1 f m x j := fun f x j hj => by
    unfold cut2 up1
    by_cases c : j < m
    · rw [if_pos c, if_neg (by omega)]
    · rw [if_neg c, if_pos (by omega)]
  refine ⟨q2.own.congr fun j hj => e us _ j hj, fun j hj => ?_⟩
  have := q2.byt j hj
  rw [e us _ j hj, e fs _ j hj] at this
  exact this
/-- a list of one -/
theorem QLs.one {a : Addr} {cp : Nat} {f : Nat → Nat → BitVec 8} (hB : B ≤ X.heap.size) (hcp : 512 ≤ cp) (h : LieAt a 512 (yv (f 0)) X) : QLs B (.slice (some ⟨X.heap.size, 0, none⟩) 1 1) 1 (fun _ => .slice (some a) 512 cp) f (X.alloc (.cells #[.slice (some a) 512 cp] 34)) := by
  have hX : Ext X (X.alloc (.cells #[.slice (some a) 512 cp] 34)) := (Below.refl _ _).alloc (Nat.le_refl _) _
  refine ⟨own_one X B _ hB, fun i hi => ?_⟩
  obtain rfl : i = 0 := by omega
  refine ⟨a, cp, rfl, hcp, h.carry hX, fun e => ?_⟩
  have := h.2
  have e : X.heap.size = a.block := Option.some.inj e
  omega
end
theorem st_tu {f : Nat → BitVec 8} (h : like 512 f = true) (j : Nat) : tuF f j = stF 512 f j := by
  unfold stF tuF
  rw [if_pos h]
  by_cases e : j = 0
  · simp only [if_pos e]
    rcases like_small h with e | e | e <;> rw [e] <;> decide
  · simp only [if_neg e]
theorem st_no {f : Nat → BitVec 8} (h : like 512 f = false) : stF 512 f = f := by
  unfold stF
  rw [if_neg (by rw [h]; decide)]
end Go.Proofs.YtedgopionpdfeaaDoor
namespace Go.Proofs.YtedgopionpdfeaaDoor
open Go.RowKit Go.BigFrame
/-- which operations are wanted -/
def xg (ops : Array Oper) : List Oper → Act → List (Option Value) → Bool
  | _, _, [] => true
  | [], _, _ :: _ => false
  | o :: os, a, v :: vs => (Region.wanted o (yielded ops a.tmps) == v.isSome) && xg ops os (a.put o.dst (v.getD undef)) vs
/-- what those that are wanted give -/
def xr (P : Program) (w : World) : List Oper → Act → List (Option Value) → Prop
  | _, _, [] => True
  | [], _, _ :: _ => True
  | o :: os, a, none :: vs => xr P w os (a.put o.dst undef) vs
  | o :: os, a, some v :: vs => (execOp a.eval o).run P w = .ok (.value v) w ∧ xr P w os (a.put o.dst v) vs
/-- what is left behind them -/
def xw (P : Program) (ops : Array Oper) (Q : Exit → Act → World → Prop) (w : World) : List Oper → Act → List (Option Value) → Prop
  | os, a, [] => wpList P ops Q os a w
  | [], _, _ :: _ => True
  | o :: os, a, none :: vs => xw P ops Q w os (a.put o.dst undef) vs
  | o :: os, a, some v :: vs => xw P ops Q w os (a.put o.dst v) vs
theorem xm {P : Program} {w : World} {ops : Array Oper} {Q : Exit → Act → World → Prop} : ∀ (vs : List (Option Value)) {os : List Oper} {a : Act} (_ : xg ops os a vs = true) (_ : xr P w os a vs) (_ : xw P ops Q w os a vs), wpList P ops Q os a w
  | [], os, a, _, _, h => by cases os <;> exact h
  | v :: vs, [], a, hg, _, _ => by cases hg
  | none :: vs, o :: os, a, hg, hr, h => by
    unfold xg at hg
    rw [Bool.and_eq_true] at hg
    exact xnot (by simpa using hg.1) (xm vs hg.2 hr h)
  | some v :: vs, o :: os, a, hg, hr, h => by
    unfold xg at hg
    rw [Bool.and_eq_true] at hg
    exact wpList_runW (by simpa using hg.1) v hr.1 (xm vs hg.2 hr.2 h)
theorem p0 (a : Act) (d : Tmp) (v : Value) : a.put (some d) v = { a with tmps := a.tmps.setIfInBounds d v } := rfl
theorem p1 {α : Type} (l : List α) (i : Nat) (a : α) : l.toArray.setIfInBounds i a = (l.set i a).toArray := List.setIfInBounds_toArray ..
theorem p2 {α : Type} (x a : α) (l : List α) : (x :: l).set 0 a = a :: l := rfl
theorem p3 {α : Type} (x a : α) (l : List α) (n : Nat) : (x :: l).set (n + 1) a = x :: l.set n a := rfl
end Go.Proofs.YtedgopionpdfeaaDoor
