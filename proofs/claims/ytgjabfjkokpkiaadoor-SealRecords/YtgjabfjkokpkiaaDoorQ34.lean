/-
  Bytes of one's own that grow. A region that draws its order, told as in LadM; classes need to stand the moves of makers alone, what makers have made must stand all moves; no word of the program. The document's root block: its parts, its refusals.
-/
import Derived.Test.YtgjabfjkokpkiaaDoorQ14
import Derived.Test.YtgjabfjkokpkiaaDoorQ12
import Derived.Test.YtgjabfjkokpkiaaDoorQ5
import Derived.Test.YtgjabfjkokpkiaaDoorQ13
import Derived.Test.YtgjabfjkokpkiaaDoorQ28
import Derived.Test.YtgjabfjkokpkiaaDoorQ1
import Derived.Test.YtgjabfjkokpkiaaDoorQ33
namespace Go.Proofs.YtgjabfjkokpkiaaDoor
open Go.RowKit Go.BigFrame
set_option linter.unusedVariables false
set_option maxRecDepth 20000
def GB (w0 : World) (v : Value) (n : Nat) (f : Nat → BitVec 8) (X : World) : Prop := OwnB w0.heap.size 5 v n (yv f) X ∧ Ext w0 X
theorem GB.ext {w0 : World} {v : Value} {n : Nat} {f : Nat → BitVec 8} {X Y : World} (h : GB w0 v n f X) (k : Ext X Y) : GB w0 v n f Y := ⟨h.1.ext k, Ext.trans h.2 k⟩
theorem GB.bv {w0 : World} {v : Value} {n : Nat} {f : Nat → BitVec 8} {X : World} (h : GB w0 v n f X) : BV v n f X := h.1.bv
theorem GB.form {w0 : World} {v : Value} {n : Nat} {f : Nat → BitVec 8} {X : World} (h : GB w0 v n f X) : ∃ o c, v = .slice o n c := h.1.bv.form
theorem GB.congr {w0 : World} {v : Value} {n m : Nat} {f g : Nat → BitVec 8} {X : World} (h : GB w0 v n f X) (hn : n = m) (e : ∀ j, j < n → f j = g j) : GB w0 v m g X := by
  subst hn
  exact ⟨h.1.congr fun j hj => by simp only [yv, e j hj], h.2⟩
theorem GB.nil (w0 : World) {X : World} (h : Ext w0 X) (f : Nat → BitVec 8) : GB w0 (.slice none 0 0) 0 f X := ⟨own_nil _ _ _ _, h⟩
theorem GB.empty (w0 : World) {X : World} (h : Ext w0 X) (f : Nat → BitVec 8) : GB w0 (.slice (some ⟨X.heap.size, 0, none⟩) 0 0) 0 f (X.alloc (.cells #[] 5)) := ⟨own_empty X _ 5 _ (Below.size h), Below.alloc h (Below.size h) _⟩
theorem GB.of {w0 : World} {v : Value} {n : Nat} {f : Nat → BitVec 8} {X Y : World} (h : Ext w0 X) (hO : OwnB X.heap.size 5 v n (yv f) Y) (k : Ext X Y) : GB w0 v n f Y := ⟨hO.down (Below.size h), Ext.trans h k⟩
theorem wpList_gb {ops : Array Oper} {rest : List Oper} {o : Oper} {a : Act} {Q : Exit → Act → World → Prop} {w0 X : World} {v : Value} {n : Nat} {f : Nat → BitVec 8} (hgd : o.guard = none) (s x : Operand)
    (ho : o.op = .call { callee := .builtin .append, args := #[s, x], argTypes := #[22, 22] }) (hs : a.eval s = v) (hG : GB w0 v n f X) (xv : Value) (l : Nat) (b : Nat → BitVec 8) (hx : a.eval x = xv) (hb : BV xv l b X) (hn : n + l ≤ 140737488355328)
    (h : ∀ v' X', GB w0 v' (n + l) (catF f n b) X' → wpList Tryd.prog ops Q rest (a.put o.dst v') X') : wpList Tryd.prog ops Q (o :: rest) a X := by
  refine wpList_growV (n := n) (base := w0.heap.size) elem22 hgd s x ho hs hG.1 xv l b (yv (catF f n b)) hx hb (fun j hj => by simp only [catF, yv, if_pos hj]) (fun j hj => by simp only [catF, yv, if_neg (show ¬ n + j < n by omega), Nat.add_sub_cancel_left]) hn (Below.size hG.2) ?_
  intro v' X' hO hg
  exact h v' X' ⟨hO, Below.trans hG.2 (below_grown (Below.size hG.2) hg fun k hk => (hG.1.lt k hk).1)⟩
theorem BV.congr {v : Value} {l : Nat} {f g : Nat → BitVec 8} {w : World} (h : BV v l f w) (e : ∀ j, j < l → f j = g j) : BV v l g w := by
  rcases h with h | ⟨a, c, h1, h2, h3⟩
  · exact .inl h
  · exact .inr ⟨a, c, h1, h2, fun j hj => by rw [h3.1 j hj]; simp only [yv, e j hj], h3.2⟩
theorem exec_append {P : Program} {o : Oper} {a : Act} {w w' : World} (s x : Operand) (t u : TypeId) (ho : o.op = .call { callee := .builtin .append, args := #[s, x], argTypes := #[t, u] }) (v y v' : Value) (hs : a.eval s = v) (hx : a.eval x = y) (hr : (Builtin.append_ #[t, u] o.type #[v, y]).run P w = .ok v' w') : (execOp a.eval o).run P w = .ok (.value v') w' := by
  unfold execOp
  simp only [ho, resolve, invoke, builtin, Sem.run_bind, Sem.run_pure, Result.andThen_ok, List.map_toArray, List.map_cons, List.map_nil, hs, hx, hr]
theorem run_gb {w0 X : World} {n : Nat} {v : Value} {f : Nat → BitVec 8} (ty : TypeId) (h : GB w0 v n f X) (xv : Value) (m : Nat) (b : Nat → BitVec 8) (hb : BV xv m b X) (hm : 0 < m) (hnm : n + m ≤ 1000000) :
    ∃ v' Y, (Builtin.append_ #[22, 22] ty #[v, xv]).run Tryd.prog X = .ok v' Y ∧ GB w0 v' (n + m) (catF f n b) Y := by
  rcases hb with ⟨_, h0⟩ | ⟨ad, c, rfl, _, hl⟩
  · omega
  obtain ⟨i, z, e1, e2, e3, e4, e5⟩ := elem22.info
  obtain ⟨v', w', h1, h2, h3, _⟩ := run_append_own (P := Tryd.prog) X w0.heap.size 22 ty 5 i z 1 1 elem22.slice e1 e2 e3 e4 e5 (by decide) v n (row n (yv f)) h.1 ad m c (row m (yv b)) (by rw [row_length, Nat.mul_one]) (fun j u hj => by
    obtain ⟨hj', rfl⟩ := row_some hj
    exact hl.1 j hj') (fun u hu => by
    obtain ⟨j, _, rfl⟩ := List.mem_map.1 hu
    rfl) (by unfold maxLen; omega) (by omega) (Below.size h.2)
  refine ⟨v', w', h1, ?_, Below.trans h.2 (below_grown (Below.size h.2) h3 fun k hk => (h.1.lt k hk).1)⟩
  unfold OwnB
  rw [row_append n m (yv f) (yv b) (yv (catF f n b)) (fun j hj => by simp only [yv]; unfold catF; rw [if_pos hj]) (fun j hj => by simp only [yv]; unfold catF; rw [if_neg (by omega), Nat.add_sub_cancel_left])] at h2
  exact h2
theorem run_gbC {w0 X : World} {n : Nat} {f : Nat → BitVec 8} (ty : TypeId) (hE : Ext w0 X) (ad0 : Addr) (hf : BV (.slice (some ad0) n n) n f X) (xv : Value) (m : Nat) (b : Nat → BitVec 8) (hb : BV xv m b X) (hm : 0 < m) (hnm : n + m ≤ 1000000) :
    ∃ v' Y, (Builtin.append_ #[22, 22] ty #[.slice (some ad0) n n, xv]).run Tryd.prog X = .ok v' Y ∧ GB w0 v' (n + m) (catF f n b) Y ∧ Ext X Y := by
  rcases hb with ⟨_, h0⟩ | ⟨ad, c, rfl, _, hl⟩
  · omega
  have hf' : LieAt ad0 n (yv f) X := by
    rcases hf with ⟨h, _⟩ | ⟨a', c, h, _, hl⟩
    · cases h
    · injection h with h
      injection h with h
      subst h
      exact hl
  obtain ⟨i, z, e1, e2, e3, e4, e5⟩ := elem22.info
  obtain ⟨v', Y, h1, h2, h3⟩ := run_append_arg_grows (P := Tryd.prog) X 22 ty 5 i z 1 1 elem22.slice e1 e2 e3 e4 e5 (by decide) ad0 n n (row n (yv f)) (by rw [row_length, Nat.mul_one]) (fun j u hj => by
    obtain ⟨hj', rfl⟩ := row_some hj
    exact hf'.1 j hj') ad m c (row m (yv b)) (by rw [row_length, Nat.mul_one]) (fun j u hj => by
    obtain ⟨hj', rfl⟩ := row_some hj
    exact hl.1 j hj') (by omega) (by unfold maxLen; omega) (by omega)
  have hXY : Ext X Y := ⟨h3.os, h3.tape, h3.output, h3.size, fun k hk => h3.block k hk (by simp)⟩
  refine ⟨v', Y, h1, GB.of hE ?_ hXY, hXY⟩
  unfold OwnB
  rw [row_append n m (yv f) (yv b) (yv (catF f n b)) (fun j hj => by simp only [yv]; unfold catF; rw [if_pos hj]) (fun j hj => by simp only [yv]; unfold catF; rw [if_neg (by omega), Nat.add_sub_cancel_left])] at h2
  exact h2
def MvS (B : Nat) (X Y : World) : Prop := Y.os = X.os ∧ Y.tape = X.tape ∧ Y.output = X.output ∧ X.heap.size ≤ Y.heap.size ∧ (∀ k, k < X.heap.size → k < B → Y.heap[k]? = X.heap[k]?) ∧ ∀ (k : Nat) (C : Array Value) (t : TypeId) (m : Nat × Nat), X.heap[k]? = some (.cells C t m) → (t ≠ 5 ∨ (1 ≤ C.size ∧ C.size ≤ 8)) → Y.heap[k]? = some (.cells C t m)
theorem mvs_ext {B : Nat} {X Y : World} (h : Ext X Y) : MvS B X Y := ⟨h.os, h.tape, h.output, Below.size h, fun k hk _ => h.block k hk, fun k C t m hk _ => (h.block k (Array.getElem?_eq_some_iff.1 hk).1).trans hk⟩
theorem gb_app {w0 X : World} {n : Nat} {v : Value} {f : Nat → BitVec 8} (ty : TypeId) (h : GB w0 v n f X) (hn9 : 9 ≤ n ∨ ∃ b, v = .slice b 0 0) (xv : Value) (m : Nat) (b : Nat → BitVec 8) (hb : BV xv m b X) (hm : 0 < m) (hnm : n + m ≤ 1000000) :
    ∃ v' Y, (Builtin.append_ #[22, 22] ty #[v, xv]).run Tryd.prog X = .ok v' Y ∧ GB w0 v' (n + m) (catF f n b) Y ∧ MvS w0.heap.size X Y := by
  rcases hb with ⟨_, h0⟩ | ⟨ad, c, rfl, _, hl⟩
  · omega
  obtain ⟨i, z, e1, e2, e3, e4, e5⟩ := elem22.info
  obtain ⟨v', w', h1, h2, h3, _⟩ := run_append_own (P := Tryd.prog) X w0.heap.size 22 ty 5 i z 1 1 elem22.slice e1 e2 e3 e4 e5 (by decide) v n (row n (yv f)) h.1 ad m c (row m (yv b)) (by rw [row_length, Nat.mul_one]) (fun j u hj => by
    obtain ⟨hj', rfl⟩ := row_some hj
    exact hl.1 j hj') (fun u hu => by
    obtain ⟨j, _, rfl⟩ := List.mem_map.1 hu
    rfl) (by unfold maxLen; omega) (by omega) (Below.size h.2)
  refine ⟨v', w', h1, ⟨?_, Below.trans h.2 (below_grown (Below.size h.2) h3 fun k hk => (h.1.lt k hk).1)⟩, h3.os, h3.tape, h3.output, h3.size, fun k hk hB => h3.block k hk fun e => by have := (h.1.lt k e.symm).1; omega, fun k C t mm hk ht => ?_⟩
  · unfold OwnB
    rw [row_append n m (yv f) (yv b) (yv (catF f n b)) (fun j hj => by simp only [yv]; unfold catF; rw [if_pos hj]) (fun j hj => by simp only [yv]; unfold catF; rw [if_neg (by omega), Nat.add_sub_cancel_left])] at h2
    exact h2
  · refine (h3.block k (Array.getElem?_eq_some_iff.1 hk).1 fun e => ?_).trans hk
    rcases h.1.2 with ⟨rfl, _⟩ | ⟨g, cap, cur, rfl, _, hg, hnc, _, hcs, _⟩
    · cases e
    · injection e with e
      subst e
      rw [hg] at hk
      injection hk with hk
      injection hk with q1 q2 q3
      subst q1 q2
      rcases ht with ht | ht
      · exact ht rfl
      · rcases hn9 with hn9 | ⟨b9, hn9⟩
        · omega
        · injection hn9 with _ q4 q5
          omega
end Go.Proofs.YtgjabfjkokpkiaaDoor
namespace Go.Proofs.YtgjabfjkokpkiaaDoor
open Go.RowKit
set_option linter.unusedVariables false
section
variable {P : Program} {ops : Array Oper} {Q : Exit → Act → World → Prop} {brk fin : List Nat} {Mk Mv : World → World → Prop} {R : Nat → Value → World → Prop} {C0 : World → Prop}
def MakJ (P : Program) (ops : Array Oper) (C0 : World → Prop) (Mk : World → World → Prop) (o : Oper) (R : Value → World → Prop) (a : Act) : Prop :=
  ∀ X, C0 X → EffY P ops o X (fun v X' => R v X' ∧ Mk X X') a
theorem MakJ.put {o : Oper} {T : Value → World → Prop} {u : Value} {a : Act} {d : Option Tmp} (hs : ∀ cs b, o.op ≠ .select cs b) (h : ∀ t, d = some t → t ∉ o.looksAt ops) : MakJ P ops C0 Mk o T (a.put d u) ↔ MakJ P ops C0 Mk o T a := by
  unfold MakJ
  exact ⟨fun k X hX => (EffY.put hs h).1 (k X hX), fun k X hX => (EffY.put hs h).2 (k X hX)⟩
def wpJ (P : Program) (ops : Array Oper) (Q : Exit → Act → World → Prop) (brk fin : List Nat) (Mk Mv : World → World → Prop) (R : Nat → Value → World → Prop) (C0 : World → Prop) : List (Nat × Nat) → (World → Prop) → Act → Prop
  | [], C, a => ∀ w, C w → Q .normal a w
  | (0, i) :: r, C, a => ∃ o v, ops[i]? = some o ∧ StrC P ops C0 o v a ∧ wpJ P ops Q brk fin Mk Mv R C0 r C (a.put o.dst v)
  | (1, i) :: r, C, a => ∃ o, ops[i]? = some o ∧ ∀ X, C X → EffY P ops o X (fun v X' => ∃ C' : World → Prop, C' X' ∧ (i ∈ brk ∨ (i ∈ fin ∧ ∀ Y, C' Y → C0 Y) ∨ ((∀ Y, C' Y → C0 Y) ∧ Mv X X' ∧ Cl Mk C')) ∧ wpJ P ops Q brk fin Mk Mv R C0 r C' (a.put o.dst v)) a
  | (2, i) :: r, C, a => ∃ o, ops[i]? = some o ∧ MakJ P ops C0 Mk o (R i) a ∧ ∀ v, (∃ X, C X ∧ R i v X) → wpJ P ops Q brk fin Mk Mv R C0 r (fun X => C X ∧ R i v X) (a.put o.dst v)
  | (_ + 3, i) :: r, C, a => ∃ o v, ops[i]? = some o ∧ StrC P ops C o v a ∧ wpJ P ops Q brk fin Mk Mv R C0 r C (a.put o.dst v)
theorem wpJ_mono (hR : ∀ i v, Cl Mk (R i v)) : ∀ (l : List (Nat × Nat)) (C D : World → Prop) (a : Act), (∀ X, D X → C X) → Cl Mk D → wpJ P ops Q brk fin Mk Mv R C0 l C a → wpJ P ops Q brk fin Mk Mv R C0 l D a
  | [], C, D, a, hs, _, h => fun w hw => h w (hs w hw)
  | (0, i) :: r, C, D, a, hs, hD, ⟨o, v, h1, h2, h3⟩ => ⟨o, v, h1, h2, wpJ_mono hR r C D _ hs hD h3⟩
  | (1, i) :: r, C, D, a, hs, hD, ⟨o, h1, h2⟩ => ⟨o, h1, fun X hX => h2 X (hs X hX)⟩
  | (2, i) :: r, C, D, a, hs, hD, ⟨o, h1, h3, h4⟩ => ⟨o, h1, h3, fun v ⟨X, hX⟩ => wpJ_mono hR r _ _ _ (fun Y hY => ⟨hs Y hY.1, hY.2⟩) (hD.and (hR i v)) (h4 v ⟨X, hs X hX.1, hX.2⟩)⟩
  | (_ + 3, i) :: r, C, D, a, hs, hD, ⟨o, v, h1, h2, h3⟩ => ⟨o, v, h1, h2.mono hs, wpJ_mono hR r C D _ hs hD h3⟩
theorem wpJ_float {C : World → Prop} (hsel : ∀ (j : Nat) (o : Oper) cs b, ops[j]? = some o → o.op ≠ .select cs b) {i : Nat} {o : Oper} (hi : ops[i]? = some o) (s2 : List (Nat × Nat)) : ∀ (s1 : List (Nat × Nat)) (a : Act), (∀ p ∈ s1, (p.1 = 0 ∨ p.1 ≥ 3) ∧ ∀ ok, ops[p.2]? = some ok → ok.apart ops o = true) →
    wpJ P ops Q brk fin Mk Mv R C0 (s1 ++ (0, i) :: s2) C a → ∃ v, StrC P ops C0 o v a ∧ wpJ P ops Q brk fin Mk Mv R C0 (s1 ++ s2) C (a.put o.dst v)
  | [], a, _, ⟨o', v, h1, h2, h3⟩ => by
    rw [hi] at h1
    injection h1 with h1
    subst h1
    exact ⟨v, h2, h3⟩
  | (1, k) :: s1, a, hap, h => by have := (hap (1, k) List.mem_cons_self).1; simp at this
  | (2, k) :: s1, a, hap, h => by have := (hap (2, k) List.mem_cons_self).1; simp at this
  | (0, k) :: s1, a, hap, ⟨ok, vk, h1, h2, h3⟩ => by
    obtain ⟨p1, p2, p3⟩ := Oper.apart_spec ((hap (0, k) List.mem_cons_self).2 ok h1)
    obtain ⟨v, g1, g2⟩ := wpJ_float hsel hi s2 s1 _ (fun k' hk' => hap k' (List.mem_cons_of_mem _ hk')) h3
    refine ⟨v, (StrC.put (fun cs b => hsel i o cs b hi) p1).1 g1, ok, vk, h1, (StrC.put (fun cs b => hsel k ok cs b h1) p3).2 h2, ?_⟩
    rw [← Act.put_comm a vk v p2]
    exact g2
  | (n + 3, k) :: s1, a, hap, ⟨ok, vk, h1, h2, h3⟩ => by
    obtain ⟨p1, p2, p3⟩ := Oper.apart_spec ((hap (n + 3, k) List.mem_cons_self).2 ok h1)
    obtain ⟨v, g1, g2⟩ := wpJ_float hsel hi s2 s1 _ (fun k' hk' => hap k' (List.mem_cons_of_mem _ hk')) h3
    refine ⟨v, (StrC.put (fun cs b => hsel i o cs b hi) p1).1 g1, ok, vk, h1, (StrC.put (fun cs b => hsel k ok cs b h1) p3).2 h2, ?_⟩
    rw [← Act.put_comm a vk v p2]
    exact g2
theorem wpJ_float3 {m : Nat} {C : World → Prop} (hsel : ∀ (j : Nat) (o : Oper) cs b, ops[j]? = some o → o.op ≠ .select cs b) {i : Nat} {o : Oper} (hi : ops[i]? = some o) (s2 : List (Nat × Nat)) : ∀ (s1 : List (Nat × Nat)) (a : Act), (∀ p ∈ s1, (p.1 = 0 ∨ p.1 ≥ 3) ∧ ∀ ok, ops[p.2]? = some ok → ok.apart ops o = true) →
    wpJ P ops Q brk fin Mk Mv R C0 (s1 ++ (m + 3, i) :: s2) C a → ∃ v, StrC P ops C o v a ∧ wpJ P ops Q brk fin Mk Mv R C0 (s1 ++ s2) C (a.put o.dst v)
  | [], a, _, ⟨o', v, h1, h2, h3⟩ => by
    rw [hi] at h1
    injection h1 with h1
    subst h1
    exact ⟨v, h2, h3⟩
  | (1, k) :: s1, a, hap, h => by have := (hap (1, k) List.mem_cons_self).1; simp at this
  | (2, k) :: s1, a, hap, h => by have := (hap (2, k) List.mem_cons_self).1; simp at this
  | (0, k) :: s1, a, hap, ⟨ok, vk, h1, h2, h3⟩ => by
    obtain ⟨p1, p2, p3⟩ := Oper.apart_spec ((hap (0, k) List.mem_cons_self).2 ok h1)
    obtain ⟨v, g1, g2⟩ := wpJ_float3 hsel hi s2 s1 _ (fun k' hk' => hap k' (List.mem_cons_of_mem _ hk')) h3
    refine ⟨v, (StrC.put (fun cs b => hsel i o cs b hi) p1).1 g1, ok, vk, h1, (StrC.put (fun cs b => hsel k ok cs b h1) p3).2 h2, ?_⟩
    rw [← Act.put_comm a vk v p2]
    exact g2
  | (n + 3, k) :: s1, a, hap, ⟨ok, vk, h1, h2, h3⟩ => by
    obtain ⟨p1, p2, p3⟩ := Oper.apart_spec ((hap (n + 3, k) List.mem_cons_self).2 ok h1)
    obtain ⟨v, g1, g2⟩ := wpJ_float3 hsel hi s2 s1 _ (fun k' hk' => hap k' (List.mem_cons_of_mem _ hk')) h3
    refine ⟨v, (StrC.put (fun cs b => hsel i o cs b hi) p1).1 g1, ok, vk, h1, (StrC.put (fun cs b => hsel k ok cs b h1) p3).2 h2, ?_⟩
    rw [← Act.put_comm a vk v p2]
    exact g2
theorem wpJ_stand {C : World → Prop} (hsel : ∀ (j : Nat) (o : Oper) cs b, ops[j]? = some o → o.op ≠ .select cs b) {i : Nat} {o : Oper} (hi : ops[i]? = some o) (s2 : List (Nat × Nat)) : ∀ (s1 : List (Nat × Nat)) (a : Act), (∀ p ∈ s1, p.1 = 0 ∧ ∀ ok, ops[p.2]? = some ok → ok.apart ops o = true) →
    wpJ P ops Q brk fin Mk Mv R C0 (s1 ++ (1, i) :: s2) C a → ∀ X, C X → EffY P ops o X (fun v X' => ∃ C' : World → Prop, C' X' ∧ (i ∈ brk ∨ (i ∈ fin ∧ ∀ Y, C' Y → C0 Y) ∨ ((∀ Y, C' Y → C0 Y) ∧ Mv X X' ∧ Cl Mk C')) ∧ wpJ P ops Q brk fin Mk Mv R C0 (s1 ++ s2) C' (a.put o.dst v)) a
  | [], a, _, ⟨o', h1, h2⟩ => by
    rw [hi] at h1
    injection h1 with h1
    subst h1
    exact h2
  | (1, k) :: s1, a, hap, h => by have := (hap (1, k) List.mem_cons_self).1; cases this
  | (n + 2, k) :: s1, a, hap, h => by have := (hap (n + 2, k) List.mem_cons_self).1; cases this
  | (0, k) :: s1, a, hap, ⟨ok, vk, h1, h2, h3⟩ => fun X hX => by
    obtain ⟨p1, p2, p3⟩ := Oper.apart_spec ((hap (0, k) List.mem_cons_self).2 ok h1)
    have g := wpJ_stand hsel hi s2 s1 _ (fun k' hk' => hap k' (List.mem_cons_of_mem _ hk')) h3 X hX
    refine EffY.mono (fun v w' ⟨C', c1, c2, c3⟩ => ⟨C', c1, c2, ok, vk, h1, ((StrC.put (fun cs b => hsel k ok cs b h1) p3).2 h2), ?_⟩) ((EffY.put (fun cs b => hsel i o cs b hi) p1).1 g)
    rw [← Act.put_comm a vk v p2]
    exact c3
theorem clk (hk : ∀ X Y, Mk X Y → Mv X Y) (hR : ∀ i v, Cl Mv (R i v)) (i : Nat) (v : Value) : Cl Mk (R i v) := fun X Y h m => hR i v X Y h (hk X Y m)
theorem wpJ_make (hk : ∀ X Y, Mk X Y → Mv X Y) (hR : ∀ i v, Cl Mv (R i v)) (hsel : ∀ (j : Nat) (o : Oper) cs b, ops[j]? = some o → o.op ≠ .select cs b) {i : Nat} {o : Oper} (hi : ops[i]? = some o) (s2 : List (Nat × Nat)) : ∀ (s1 : List (Nat × Nat)) (a : Act) (C : World → Prop), Cl Mk C → (∀ X, C X → C0 X) → (∃ X, C X) → (∀ p ∈ s1, (p.1 = 1 → p.2 ∉ brk ∧ p.2 ∉ fin) ∧ ∀ ok, ops[p.2]? = some ok → ok.apart ops o = true) →
    wpJ P ops Q brk fin Mk Mv R C0 (s1 ++ (2, i) :: s2) C a → MakJ P ops C0 Mk o (R i) a ∧ ∀ v, (∃ X, C X ∧ R i v X) → wpJ P ops Q brk fin Mk Mv R C0 (s1 ++ s2) (fun X => C X ∧ R i v X) (a.put o.dst v)
  | [], a, C, _, _, _, _, ⟨o', h1, h3, h4⟩ => by
    rw [hi] at h1
    injection h1 with h1
    subst h1
    exact ⟨h3, h4⟩
  | (0, k) :: s1, a, C, hC, h0, hx, hap, ⟨ok, vk, h1, h2, h3⟩ => by
    obtain ⟨p1, p2, p3⟩ := Oper.apart_spec ((hap (0, k) List.mem_cons_self).2 ok h1)
    obtain ⟨g1, g2⟩ := wpJ_make hk hR hsel hi s2 s1 _ C hC h0 hx (fun k' hk' => hap k' (List.mem_cons_of_mem _ hk')) h3
    refine ⟨(MakJ.put (fun cs b => hsel i o cs b hi) p1).1 g1, fun v hv => ⟨ok, vk, h1, (StrC.put (fun cs b => hsel k ok cs b h1) p3).2 h2, ?_⟩⟩
    rw [← Act.put_comm a vk v p2]
    exact g2 v hv
  | (1, k) :: s1, a, C, hC, h0, ⟨X0, hX0⟩, hap, ⟨ok, h1, h2⟩ => by
    have hnb := (hap (1, k) List.mem_cons_self).1 rfl
    obtain ⟨p1, p2, p3⟩ := Oper.apart_spec ((hap (1, k) List.mem_cons_self).2 ok h1)
    have ih := fun (vk : Value) (C' : World → Prop) => wpJ_make hk hR hsel hi s2 s1 (a.put ok.dst vk) C'
    obtain ⟨vk, X1, C1, c1, c2, c4⟩ := (h2 X0 hX0).some
    obtain ⟨s1', m1, k1⟩ := (c2.resolve_left hnb.1).resolve_left fun e => hnb.2 e.1
    have g1 := (ih vk C1 k1 s1' ⟨_, c1⟩ (fun k' hk' => hap k' (List.mem_cons_of_mem _ hk')) c4)
    refine ⟨(MakJ.put (fun cs b => hsel i o cs b hi) p1).1 g1.1, fun v hv => ⟨ok, h1, fun X hX => (EffY.put (fun cs b => hsel k ok cs b h1) p3).2 (EffY.mono ?_ (h2 X hX.1))⟩⟩
    rintro vk X' ⟨C', c1, c2, c4⟩
    obtain ⟨s1', m1, k1⟩ := (c2.resolve_left hnb.1).resolve_left fun e => hnb.2 e.1
    have g := (ih vk C' k1 s1' ⟨_, c1⟩ (fun k' hk' => hap k' (List.mem_cons_of_mem _ hk')) c4).2 v ⟨X', c1, hR i v _ _ hX.2 m1⟩
    refine ⟨fun Y => C' Y ∧ R i v Y, ⟨c1, hR i v _ _ hX.2 m1⟩, .inr (.inr ⟨fun Y hY => s1' Y hY.1, m1, k1.and (clk hk hR i v)⟩), ?_⟩
    rw [← Act.put_comm a vk v p2]
    exact g
  | (2, k) :: s1, a, C, hC, h0, ⟨X0, hX0⟩, hap, ⟨ok, h1, h2, h3⟩ => by
    obtain ⟨p1, p2, p3⟩ := Oper.apart_spec ((hap (2, k) List.mem_cons_self).2 ok h1)
    have ih := fun (vk : Value) => wpJ_make hk hR hsel hi s2 s1 (a.put ok.dst vk) (fun X => C X ∧ R k vk X) (hC.and (clk hk hR k vk)) (fun X hX => h0 X hX.1)
    obtain ⟨vk, X1, r1, m1⟩ := (h2 X0 (h0 X0 hX0)).some
    have n1 : ∃ X, C X ∧ R k vk X := ⟨X1, hC _ _ hX0 m1, r1⟩
    have g1 := ih vk n1 (fun k' hk' => hap k' (List.mem_cons_of_mem _ hk')) (h3 vk n1)
    refine ⟨(MakJ.put (fun cs b => hsel i o cs b hi) p1).1 g1.1, fun v hv => ⟨ok, h1, (MakJ.put (fun cs b => hsel k ok cs b h1) p3).2 h2, fun vk ⟨X, hX⟩ => ?_⟩⟩
    have n2 : ∃ X, C X ∧ R k vk X := ⟨X, hX.1.1, hX.2⟩
    have g := (ih vk n2 (fun k' hk' => hap k' (List.mem_cons_of_mem _ hk')) (h3 vk n2)).2 v ⟨X, ⟨hX.1.1, hX.2⟩, hX.1.2⟩
    rw [← Act.put_comm a vk v p2]
    exact wpJ_mono (clk hk hR) _ _ _ _ (fun Y hY => ⟨⟨hY.1.1, hY.2⟩, hY.1.2⟩) ((hC.and (clk hk hR i v)).and (clk hk hR k vk)) g
  | (n + 3, k) :: s1, a, C, hC, h0, hx, hap, ⟨ok, vk, h1, h2, h3⟩ => by
    obtain ⟨p1, p2, p3⟩ := Oper.apart_spec ((hap (n + 3, k) List.mem_cons_self).2 ok h1)
    obtain ⟨g1, g2⟩ := wpJ_make hk hR hsel hi s2 s1 _ C hC h0 hx (fun k' hk' => hap k' (List.mem_cons_of_mem _ hk')) h3
    refine ⟨(MakJ.put (fun cs b => hsel i o cs b hi) p1).1 g1, fun v hv => ⟨ok, vk, h1, ((StrC.put (fun cs b => hsel k ok cs b h1) p3).2 h2).mono fun X hX => hX.1, ?_⟩⟩
    rw [← Act.put_comm a vk v p2]
    exact g2 v hv
structure LadJAt (P : Program) (ops : Array Oper) (Q : Exit → Act → World → Prop) (brk fin : List Nat) (Mk Mv : World → World → Prop) (R : Nat → Value → World → Prop) (C0 : World → Prop) (l : List (Nat × Nat)) (L : Array Bool) (A : Act) (w : World) : Prop where
  size : L.size = ops.size
  closed : Closed ops L
  way : ∃ C : World → Prop, C w ∧ ((∀ X, C X → C0 X) ∨ ∀ p ∈ lfm L l, p.1 ≠ 0 ∧ p.1 ≠ 2) ∧ (Cl Mk C ∨ ∀ p ∈ lfm L l, p.1 ≠ 2) ∧ wpJ P ops Q brk fin Mk Mv R C0 (lfm L l) C A
theorem wp_region_ladj {id : Nat} {a : Act} {w : World} (Mk Mv : World → World → Prop) (C0 : World → Prop) (R : Nat → Value → World → Prop) (brk fin : List Nat) (l : List (Nat × Nat)) (hmo : P.follows .mixedOrders = true) (hB : textB ops = true) (hnd : (l.map (·.2)).Nodup) (hcov : ∀ i ∈ List.range ops.size, i ∈ l.map (·.2)) (hin : ∀ p ∈ l, p.2 < ops.size)
    (hp : l.Pairwise (fun p q => ladMB ops brk fin p q = true)) (hk : ∀ X Y, Mk X Y → Mv X Y) (hR : ∀ i v, Cl Mv (R i v)) (C1 : World → Prop) (hs : ∀ X, C1 X → C0 X) (hC : Cl Mk C1) (h0 : C1 w.drew) (h : wpJ P ops Q brk fin Mk Mv R C0 l C1 a) : (Code.region id ops true).wp P Q a w := by
  obtain ⟨hsel, htx⟩ := textB_spec hB
  refine wp_region_inv (I := fun L A X => LadJAt P ops Q brk fin Mk Mv R C0 l L A X) hmo ?h0 ?hs ?he
  case h0 =>
    have hf0 : ∀ k d, k < ops.size → (Array.replicate ops.size false).getD k d = false := fun k d hk => by unfold Array.getD; simp [hk]
    refine ⟨by simp, ?_, C1, h0, .inl hs, .inl hC, ?_⟩
    · intro i o ho hi
      rw [hf0 i _ (Array.getElem?_eq_some_iff.1 ho).1] at hi
      cases hi
    · rw [show lfm (Array.replicate ops.size false) l = l from List.filter_eq_self.2 fun p hpm => by simp [hf0 p.2 true (hin p hpm)]]
      exact h
  case hs =>
    intro L A X i o hI ho hl hdeps
    have hil : i < ops.size := (Array.getElem?_eq_some_iff.1 ho).1
    have hsize : (L.setIfInBounds i true).size = ops.size := by simp [hI.size]
    have hclosed := hI.closed.step ho hdeps
    have hap : ∀ k, edgeB ops k i = true → L.getD k true = false → ∀ ok, ops[k]? = some ok → ok.apart ops o = true := by
      intro k hed hk ok hok
      rcases edgeB_spec ho hok hed with ⟨e, he, hbe, rfl⟩ | h2
      · have h3 := hdeps e he hbe
        rw [getD_flip hk] at h3
        cases h3
      · exact h2
    have hwt : ∀ k, reachB ops i k = true → L.getD k true = false → False := fun k hk hk2 => by
      have := reachB_listed hI.closed i k o ho hdeps hk
      rw [getD_flip hk2] at this
      cases this
    obtain ⟨p, hpl, rfl⟩ := List.mem_map.1 (hcov i (by simpa using hil))
    obtain ⟨r1, r2, s1, s2, s3, s4⟩ := lfm_split hnd hp hpl hl
    obtain ⟨C1, hC1, hc0, hcl, hw⟩ := hI.way
    have sub : ∀ q, q ∈ r1 ++ r2 → q ∈ lfm L l := fun q hq => by
      rw [s1]
      rcases List.mem_append.1 hq with hq | hq
      · exact List.mem_append_left _ hq
      · exact List.mem_append_right _ (List.mem_cons_of_mem _ hq)
    have hcl2 : Cl Mk C1 ∨ ∀ q ∈ r1 ++ r2, q.1 ≠ 2 := hcl.imp (fun h => h) fun h9 q hq => h9 q (sub q hq)
    have hc02 : (∀ X, C1 X → C0 X) ∨ ∀ q ∈ r1 ++ r2, q.1 ≠ 0 ∧ q.1 ≠ 2 := hc0.imp (fun h => h) fun h9 q hq => h9 q (sub q hq)
    rw [s1] at hw hcl hc0
    obtain ⟨b, i⟩ := p
    have hr0 : (b = 0 ∨ b ≥ 3) → ∀ q ∈ r1, (q.1 = 0 ∨ q.1 ≥ 3) ∧ ∀ ok, ops[q.2]? = some ok → ok.apart ops o = true := by
      intro hb q hq
      obtain ⟨t1, t2⟩ := s3 q hq
      unfold ladMB at t1
      rw [if_neg (by simp only; omega), if_neg (by simp only; omega)] at t1
      by_cases h9 : q.1 = 0 ∨ q.1 ≥ 3
      · rw [if_pos (by simpa using h9)] at t1
        exact ⟨h9, hap q.2 t1 t2⟩
      · rw [if_neg (by simpa using h9), Bool.and_eq_true] at t1
        exact (hwt _ t1.1 t2).elim
    have hr1 : b = 1 → ∀ q ∈ r1, q.1 = 0 ∧ ∀ ok, ops[q.2]? = some ok → ok.apart ops o = true := by
      intro hb q hq
      obtain ⟨t1, t2⟩ := s3 q hq
      unfold ladMB at t1
      rw [if_neg (by simp only; omega), if_pos hb, Bool.and_eq_true] at t1
      by_cases h9 : q.1 = 0
      · rw [if_pos h9] at t1
        exact ⟨h9, hap q.2 t1.1 t2⟩
      · rw [if_neg h9] at t1
        exact (hwt _ t1.1 t2).elim
    have hr2 : b = 1 → i ∈ brk → r1 = [] := by
      intro hb hbk
      cases hr : r1 with
      | nil => rfl
      | cons q r =>
        exfalso
        obtain ⟨t1, t2⟩ := s3 q (by rw [hr]; exact List.mem_cons_self)
        unfold ladMB at t1
        rw [if_neg (by simp only; omega), if_pos hb, Bool.and_eq_true, Bool.or_eq_true] at t1
        rcases t1.2 with h9 | h9
        · simp [hbk] at h9
        · exact hwt _ h9 t2
    match b, hw, s4, hcl, hc0, hr0, hr1, hr2 with
    | 0, hw, _, _, hc0, hr0, _, _ =>
      have hc0 := hc0.resolve_right fun h9 => (h9 (0, i) (List.mem_append_right _ List.mem_cons_self)).1 rfl
      obtain ⟨v, g1, g2⟩ := wpJ_float hsel ho r2 r1 A (hr0 (.inl rfl)) hw
      exact StrC.wpOp ho (hc0 _ hC1) g1 ⟨hsize, hclosed, C1, hC1, .inl hc0, by rw [s2]; exact hcl2, by rw [s2]; exact g2⟩
    | n + 3, hw, _, _, _, hr0, _, _ =>
      obtain ⟨v, g1, g2⟩ := wpJ_float3 hsel ho r2 r1 A (hr0 (.inr (by omega))) hw
      exact StrC.wpOp ho hC1 g1 ⟨hsize, hclosed, C1, hC1, by rw [s2]; exact hc02, by rw [s2]; exact hcl2, by rw [s2]; exact g2⟩
    | 1, hw, s4, _, _, _, hr1, hr2 =>
      refine EffY.wpOp ho (wpJ_stand hsel ho r2 r1 A (hr1 rfl) hw X hC1) fun v w' ⟨C', c1, c2, c3⟩ => ⟨hsize, hclosed, C', c1, ?_, ?_, by rw [s2]; exact c3⟩
      · rw [s2]
        rcases c2 with c2 | c2 | ⟨c2, _, c5⟩
        · refine .inr fun q hq => ?_
          rw [hr2 rfl c2, List.nil_append] at hq
          have t1 := s4 q hq
          unfold ladMB at t1
          by_cases h9 : q.1 = 2
          · rw [if_pos h9, if_pos (by simp [c2])] at t1
            cases t1
          · refine ⟨fun e0 => ?_, h9⟩
            rw [if_neg h9, if_neg (by omega), if_neg (by simp), Bool.and_eq_true] at t1
            simp [e0, c2] at t1
        · exact .inl c2.2
        · exact .inl c2
      · rw [s2]
        rcases c2 with c2 | c2 | ⟨c2, _, c5⟩
        · refine .inr fun q hq => ?_
          rw [hr2 rfl c2, List.nil_append] at hq
          have t1 := s4 q hq
          unfold ladMB at t1
          intro h9
          rw [if_pos h9, if_pos (by simp [c2])] at t1
          cases t1
        · refine .inr fun q hq => ?_
          rcases List.mem_append.1 hq with hq | hq
          · have := (hr1 rfl q hq).1; omega
          · have t1 := s4 q hq
            unfold ladMB at t1
            intro h9
            rw [if_pos h9, if_pos (by simp [c2.1])] at t1
            cases t1
        · exact .inl c5
    | 2, hw, _, hcl, hc0, _, _, _ =>
      have hcl := hcl.resolve_right fun h9 => h9 (2, i) (List.mem_append_right _ List.mem_cons_self) rfl
      have hc0 := hc0.resolve_right fun h9 => (h9 (2, i) (List.mem_append_right _ List.mem_cons_self)).2 rfl
      obtain ⟨g1, g2⟩ := wpJ_make hk hR hsel ho r2 r1 A C1 hcl hc0 ⟨X, hC1⟩ (fun q hq => by
        obtain ⟨t1, t2⟩ := s3 q hq
        unfold ladMB at t1
        rw [if_pos rfl] at t1
        by_cases h9 : (decide (q.1 = 1) && (brk.contains q.2 || fin.contains q.2)) = true
        · rw [if_pos h9] at t1
          cases t1
        · rw [if_neg h9] at t1
          exact ⟨fun e => ⟨fun hb => h9 (by simp [e, hb]), fun hb => h9 (by simp [e, hb])⟩, hap q.2 t1 t2⟩) hw
      refine EffY.wpOp ho (g1 X (hc0 X hC1)) fun u Y ⟨e2, e3⟩ => ?_
      have hc2 := hcl _ _ hC1 e3
      exact ⟨hsize, hclosed, _, ⟨hc2, e2⟩, .inl fun Y hY => hc0 Y hY.1, .inl (hcl.and (clk hk hR i u)), by rw [s2]; exact g2 u ⟨_, hc2, e2⟩⟩
  case he =>
    intro L A X hI hr
    have hall : ∀ n k, k < n → k < ops.size → L.getD k false = true := by
      intro n
      induction n with
      | zero => intro k hk; omega
      | succ n ih =>
        intro k hk hkn
        cases hv : L.getD k false with
        | true => rfl
        | false =>
          exfalso
          have ho : ops[k]? = some ops[k] := Array.getElem?_eq_getElem hkn
          have hmem : k ∈ Region.ready .any ops L := mem_ready.2 ⟨by rw [← getD_flip' (by rw [hI.size]; omega)]; exact hv, ops[k], ho, fun e he hbe => ih e.on (by have := htx k _ ho e he hbe; omega) (by have := htx k _ ho e he hbe; omega)⟩
          rw [hr] at hmem
          cases hmem
    obtain ⟨C1, hC1, _, _, hw⟩ := hI.way
    rw [show lfm L l = [] from List.filter_eq_nil_iff.2 fun p hpm => by
      have := hall (p.2 + 1) p.2 (by omega) (hin p hpm)
      rw [getD_flip' (by rw [hI.size]; exact hin p hpm)] at this
      simp [this]] at hw
    exact hw X hC1
theorem wpJ_nil {C : World → Prop} {a : Act} (h : ∀ w, C w → Q .normal a w) : wpJ P ops Q brk fin Mk Mv R C0 [] C a := h
theorem wpJ_f {C : World → Prop} {a : Act} {i : Nat} {r : List (Nat × Nat)} (o : Oper) (v : Value) (ho : ops[i]? = some o) (hw : Region.wanted o (yielded ops a.tmps) = true) (hr : ∀ X, C0 X → (execOp a.eval o).run P X = .ok (.value v) X) (h : wpJ P ops Q brk fin Mk Mv R C0 r C (a.put o.dst v)) : wpJ P ops Q brk fin Mk Mv R C0 ((0, i) :: r) C a := ⟨o, v, ho, .inl ⟨hw, hr⟩, h⟩
theorem wpJ_m {C : World → Prop} {a : Act} {i : Nat} {r : List (Nat × Nat)} (o : Oper) (ho : ops[i]? = some o) (hw : Region.wanted o (yielded ops a.tmps) = true) (hr : ∀ X, C0 X → ∃ v X', (execOp a.eval o).run P X = .ok (.value v) X' ∧ R i v X' ∧ Mk X X') (h : ∀ v, (∃ X, C X ∧ R i v X) → wpJ P ops Q brk fin Mk Mv R C0 r (fun X => C X ∧ R i v X) (a.put o.dst v)) : wpJ P ops Q brk fin Mk Mv R C0 ((2, i) :: r) C a := ⟨o, ho, fun X hX => .inl ⟨hw, by obtain ⟨v, X', h1, h2⟩ := hr X hX; rw [h1]; exact h2⟩, h⟩
theorem wpJ_mcall {C : World → Prop} {a : Act} {i : Nat} {r : List (Nat × Nat)} (o : Oper) {f : FuncId} {args : Array Value} (ho : ops[i]? = some o) (hw : Region.wanted o (yielded ops a.tmps) = true) (hr : ∀ X, C0 X → (execOp a.eval o).run P X = .ok (.enter f args) X)
    (hc : ∀ X, C0 X → Calls P f args X fun e X' => ∃ v, e = .returned v ∧ R i v X' ∧ Mk X X') (h : ∀ v, (∃ X, C X ∧ R i v X) → wpJ P ops Q brk fin Mk Mv R C0 r (fun X => C X ∧ R i v X) (a.put o.dst v)) : wpJ P ops Q brk fin Mk Mv R C0 ((2, i) :: r) C a := ⟨o, ho, fun X hX => .inl ⟨hw, by rw [hr X hX]; exact hc X hX⟩, h⟩
theorem wpJ_call {C : World → Prop} {a : Act} {i : Nat} {r : List (Nat × Nat)} (o : Oper) {f : FuncId} {args : Array Value} (ho : ops[i]? = some o) (hw : Region.wanted o (yielded ops a.tmps) = true) (hr : ∀ X, C X → (execOp a.eval o).run P X = .ok (.enter f args) X)
    (hc : ∀ X, C X → Calls P f args X fun e X' => ∃ v, e = .returned v ∧ ∃ C' : World → Prop, C' X' ∧ (i ∈ brk ∨ (i ∈ fin ∧ ∀ Y, C' Y → C0 Y) ∨ ((∀ Y, C' Y → C0 Y) ∧ Mv X X' ∧ Cl Mk C')) ∧ wpJ P ops Q brk fin Mk Mv R C0 r C' (a.put o.dst v)) : wpJ P ops Q brk fin Mk Mv R C0 ((1, i) :: r) C a := ⟨o, ho, fun X hX => .inl ⟨hw, by rw [hr X hX]; exact hc X hX⟩⟩
theorem wpJ_to {C : World → Prop} {a : Act} {i : Nat} {r : List (Nat × Nat)} (o : Oper) (ho : ops[i]? = some o) (hw : Region.wanted o (yielded ops a.tmps) = true)
    (h : ∀ X, C X → ∃ v X', (execOp a.eval o).run P X = .ok (.value v) X' ∧ ∃ C' : World → Prop, C' X' ∧ (i ∈ brk ∨ (i ∈ fin ∧ ∀ Y, C' Y → C0 Y) ∨ ((∀ Y, C' Y → C0 Y) ∧ Mv X X' ∧ Cl Mk C')) ∧ wpJ P ops Q brk fin Mk Mv R C0 r C' (a.put o.dst v)) : wpJ P ops Q brk fin Mk Mv R C0 ((1, i) :: r) C a := ⟨o, ho, fun X hX => .inl ⟨hw, by obtain ⟨v, X', h1, h2⟩ := h X hX; rw [h1]; exact h2⟩⟩
theorem wpJ_st {C : World → Prop} {a : Act} {i : Nat} {r : List (Nat × Nat)} (o : Oper) (ho : ops[i]? = some o) (hw : Region.wanted o (yielded ops a.tmps) = true)
    (h : ∀ X, C X → ∃ X', (execOp a.eval o).run P X = .ok .skip X' ∧ ∃ C' : World → Prop, C' X' ∧ (i ∈ brk ∨ (i ∈ fin ∧ ∀ Y, C' Y → C0 Y) ∨ ((∀ Y, C' Y → C0 Y) ∧ Mv X X' ∧ Cl Mk C')) ∧ wpJ P ops Q brk fin Mk Mv R C0 r C' (a.put o.dst undef)) : wpJ P ops Q brk fin Mk Mv R C0 ((1, i) :: r) C a := ⟨o, ho, fun X hX => .inl ⟨hw, by obtain ⟨X', h1, h2⟩ := h X hX; rw [h1]; exact h2⟩⟩
end
end Go.Proofs.YtgjabfjkokpkiaaDoor
namespace Go.Proofs.YtgjabfjkokpkiaaDoor
open Go.RowKit Go.BigFrame
set_option linter.unusedVariables false
set_option maxRecDepth 20000
def few (n : Nat) (f : Nat → BitVec 8) (v : Value) (X : World) : Prop := ∃ g, v = .slice (some ⟨g, 0, none⟩) n n ∧ X.heap[g]? = some (.cells (row n (yv f)).toArray 5 (0, 0))
theorem few_cl {B n : Nat} (h1 : 1 ≤ n) (h8 : n ≤ 8) (f : Nat → BitVec 8) (v : Value) : Cl (MvS B) (few n f v) := fun X Y ⟨g, e, h⟩ k => ⟨g, e, k.2.2.2.2.2 g _ _ _ h (.inr ⟨by rw [row_size]; exact h1, by rw [row_size]; exact h8⟩)⟩
theorem few_bv {n : Nat} {f : Nat → BitVec 8} {v : Value} {X : World} (h : few n f v X) : BV v n f X := by
  obtain ⟨g, rfl, h⟩ := h
  exact .inr ⟨⟨g, 0, none⟩, n, rfl, Nat.le_refl _, RowAt.lie (row_heap h) n (Nat.le_refl _)⟩
theorem few_one (X : World) (u : BitVec 8) : few 1 (fun _ => u) (.slice (some ⟨X.heap.size, 0, none⟩) 1 1) (X.alloc (.cells #[.int .u8 (u.toNat : Int)] 5)) := ⟨X.heap.size, rfl, heap_new _ _ _⟩
theorem nb0 {x : Nat} (h : x < 4294967296) : IntKind.u8.wrap (x : Int) = ((numB x 0).toNat : Int) := by
  unfold numB byB
  rw [IntKind.wrap_u8, BitVec.toNat_setWidth, BitVec.toNat_ushiftRight, n4_nat h, Nat.shiftRight_eq_div_pow]
  omega
theorem nb1 {x : Nat} (h : x < 4294967296) : IntKind.u8.wrap ((x : Int) / 256) = ((numB x 1).toNat : Int) := by
  unfold numB byB
  rw [IntKind.wrap_u8, BitVec.toNat_setWidth, BitVec.toNat_ushiftRight, n4_nat h, Nat.shiftRight_eq_div_pow]
  omega
theorem nb2 {x : Nat} (h : x < 4294967296) : IntKind.u8.wrap ((x : Int) / 65536) = ((numB x 2).toNat : Int) := by
  unfold numB byB
  rw [IntKind.wrap_u8, BitVec.toNat_setWidth, BitVec.toNat_ushiftRight, n4_nat h, Nat.shiftRight_eq_div_pow]
  omega
theorem nb3 {x : Nat} (h : x < 4294967296) : IntKind.u8.wrap ((x : Int) / 16777216) = ((numB x 3).toNat : Int) := by
  unfold numB byB
  rw [IntKind.wrap_u8, BitVec.toNat_setWidth, BitVec.toNat_ushiftRight, n4_nat h, Nat.shiftRight_eq_div_pow]
  omega
set_option maxRecDepth 20000 in
set_option maxHeartbeats 4000000 in
theorem four_any (x : Nat) (hx : x < 4294967296) (w : World) : Calls Tryd.prog 33 #[.int .i64 (x : Int)] w fun e w' => ∃ v, e = .returned v ∧ few 4 (numB x) v w' ∧ Ext w w' := by
  have hE := hideit (Ext.refl w)
  go_enter Tryd.func33, Tryd.ntmps33
  go_upto_region 0 with (fail)
  refine wp_region_lit ?_
  refine xm [some (.slice none 0 0)] (by kernel_rfl) (by simp [xr, go_sem]) ?_
  simp only [xw, p0, p1, p2, p3]
  go_upto_region 1 with (fail)
  refine wp_region_lit ?_
  refine xm [some (.int .i64 (x : Int)), some (.int .u8 ((numB x 0).toNat : Int)), some (.int .i64 (x : Int)), some (.int .i64 ((x : Int) / 256)), some (.int .u8 ((numB x 1).toNat : Int)), some (.int .i64 (x : Int)), some (.int .i64 ((x : Int) / 65536)), some (.int .u8 ((numB x 2).toNat : Int)), some (.int .i64 (x : Int)), some (.int .i64 ((x : Int) / 16777216)), some (.int .u8 ((numB x 3).toNat : Int))] (by kernel_rfl) (by simp [xr, go_sem, nb0 hx, nb1 hx, nb2 hx, nb3 hx]) ?_
  simp only [xw, p0, p1, p2, p3]
  refine wpList_to rfl (.slice (some ⟨w.heap.size, 0, none⟩) 4 4) (w.alloc (.cells #[.int .u8 ((numB x 0).toNat : Int), .int .u8 ((numB x 1).toNat : Int), .int .u8 ((numB x 2).toNat : Int), .int .u8 ((numB x 3).toNat : Int)] 5)) (by simp [go_sem]) ?_
  simp only [zp0, zp1, zp2, zp3]
  refine xm [some (.slice (some ⟨w.heap.size, 0, none⟩) 4 4)] (by kernel_rfl) (by simp [xr, go_sem]) ?_
  simp only [xw, p0, p1, p2, p3]
  go_wp2
  go_ret
  exact ⟨_, rfl, ⟨_, rfl, heap_new _ _ _⟩, Below.alloc hE.out (Below.size hE.out) _⟩
def rc12 (g : BitVec 64) : Nat → BitVec 8 := catF (catF (fun _ => 0#8) 0 rootF) 4 (byB g)
def RS (w0 : World) (g : BitVec 64) (i : Nat) (v : Value) (X : World) : Prop := Ext w0 X ∧ ((∃ a, i = 0 ∧ v = .slice (some a) 4 4 ∧ BV v 4 rootF X) ∨ GB w0 v (4 + i) (rc12 g) X)
theorem RS.ext {w0 : World} {g : BitVec 64} {i : Nat} {v : Value} {X Y : World} (h : RS w0 g i v X) (k : Ext X Y) : RS w0 g i v Y := by
  refine ⟨Ext.trans h.1 k, ?_⟩
  rcases h.2 with ⟨a, h1, h2, h3⟩ | h2
  · exact .inl ⟨a, h1, h2, h3.ext k⟩
  · exact .inr (h2.ext k)
theorem rc_next (g : BitVec 64) (i j : Nat) : catF (rc12 g) (4 + i) (fun _ => byB g i) j = (if j < 4 + i then rc12 g j else byB g i) := rfl
theorem rc_at (g : BitVec 64) (i : Nat) : rc12 g (4 + i) = byB g i := by
  unfold rc12 catF
  rw [if_neg (by omega), Nat.add_sub_cancel_left]
theorem rs_app {w0 X : World} {g : BitVec 64} {i : Nat} {v xv : Value} (ty : TypeId) (h : RS w0 g i v X) (hi : i < 8) (hb : BV xv 1 (fun _ => byB g i) X) : ∃ v' Y, (Builtin.append_ #[22, 22] ty #[v, xv]).run Tryd.prog X = .ok v' Y ∧ RS w0 g (i + 1) v' Y := by
  rcases h.2 with ⟨a, rfl, rfl, h3⟩ | h2
  · obtain ⟨v', Y, h4, h5, h6⟩ := run_gbC ty h.1 a h3 xv 1 _ hb (by decide) (by decide)
    refine ⟨v', Y, h4, Ext.trans h.1 h6, .inr (h5.congr rfl fun j hj => ?_)⟩
    unfold catF rc12 catF
    by_cases e : j < 4
    · rw [if_pos e, if_pos e, if_neg (by omega), Nat.sub_zero]
    · obtain rfl : j = 4 := by omega
      rfl
  · obtain ⟨v', Y, h4, h5⟩ := run_gb ty h2 xv 1 _ hb (by decide) (by omega)
    refine ⟨v', Y, h4, h5.2, .inr (h5.congr (by omega) fun j hj => ?_)⟩
    rw [rc_next]
    by_cases e : j < 4 + i
    · rw [if_pos e]
    · rw [if_neg e, show j = 4 + i by omega, rc_at]
theorem by_at (g : BitVec 64) (i : Nat) : IntKind.u8.wrap ((g.toNat / 2 ^ (8 * i) : Nat) : Int) = ((byB g i).toNat : Int) := by
  unfold byB
  rw [IntKind.wrap_u8, BitVec.toNat_setWidth, BitVec.toNat_ushiftRight, Nat.shiftRight_eq_div_pow]
  omega
set_option maxRecDepth 20000 in
set_option maxHeartbeats 4000000 in
theorem rrb_head (K : Nat → BitVec 8) (h : Hd) (g : BitVec 64) (b : Bool) (s : Int) (H : Nat → BitVec 8) (w : World) (hk : ¬ okH h) : Calls Tryd.prog 13 #[.agg (row 32 (yv K)).toArray, .agg (row 24 (hdv h)).toArray, .agg (row 35 (rtV g b (s) H)).toArray] w fun e w' => e = .returned (.tuple #[.slice none 0 0, .int .i64 1]) ∧ Ext w w' := by
  have hE := hideit (Ext.refl w)
  go_enter Tryd.func13, Tryd.ntmps13
  go_upto_region 0 with (fail)
  refine wp_region_lit ?_
  have A0 := hideit (RowAt.new w 32 (yv K) 31)
  have XB : Ext w (w.alloc (.cells (row 32 (yv K)).toArray 31)) := (Below.refl _ _).alloc (Nat.le_refl _) _
  have AE := hideit (Ext.trans hE.out (XB))
  have AB := hideit (hE.out.size)
  clear XB
  refine wpList_to rfl (.pointer (some ⟨w.heap.size, 0, none⟩)) (w.alloc (.cells (row 32 (yv K)).toArray 31)) (by simp [go_sem]) ?_
  simp only [zp0, zp1, zp2, zp3]
  generalize w.alloc (.cells (row 32 (yv K)).toArray 31) = x1 at A0 AE ⊢
  obtain ⟨c3, ec3⟩ : ∃ b, b = w.heap.size := ⟨_, rfl⟩
  have ABc3 : Hid (w.heap.size ≤ c3) := by rw [ec3]; exact AB.out
  clear AB
  rw [← ec3] at A0  ⊢
  clear ec3
  have Hc3 := A0
  clear A0
  replace hE := AE
  clear AE
  have A0 := hideit (RowAt.new x1 24 (hdv h) 37)
  have XB : Ext x1 (x1.alloc (.cells (row 24 (hdv h)).toArray 37)) := (Below.refl _ _).alloc (Nat.le_refl _) _
  have A1 := hideit (Hc3.out.carry XB)
  have AE := hideit (Ext.trans hE.out (XB))
  have AB := hideit (hE.out.size)
  have D0 : Hid (c3 ≠ x1.heap.size) := Nat.ne_of_lt Hc3.out.2.2
  clear XB
  refine wpList_to rfl (.pointer (some ⟨x1.heap.size, 0, none⟩)) (x1.alloc (.cells (row 24 (hdv h)).toArray 37)) (by simp [go_sem]) ?_
  simp only [zp0, zp1, zp2, zp3]
  generalize x1.alloc (.cells (row 24 (hdv h)).toArray 37) = x2 at A0 A1 AE ⊢
  obtain ⟨c4, ec4⟩ : ∃ b, b = x1.heap.size := ⟨_, rfl⟩
  have ABc4 : Hid (w.heap.size ≤ c4) := by rw [ec4]; exact AB.out
  clear AB
  rw [← ec4] at A0 D0 ⊢
  clear ec4
  have Hc4 := A0
  clear A0
  replace Hc3 := A1
  clear A1
  replace hE := AE
  clear AE
  have Dc4_0 := D0
  clear D0
  have A0 := hideit (RowAt.new x2 35 (rtV g b (s) H) 39)
  have XB : Ext x2 (x2.alloc (.cells (row 35 (rtV g b (s) H)).toArray 39)) := (Below.refl _ _).alloc (Nat.le_refl _) _
  have A1 := hideit (Hc3.out.carry XB)
  have A2 := hideit (Hc4.out.carry XB)
  have AE := hideit (Ext.trans hE.out (XB))
  have AB := hideit (hE.out.size)
  have D0 : Hid (c3 ≠ x2.heap.size) := Nat.ne_of_lt Hc3.out.2.2
  have D1 : Hid (c4 ≠ x2.heap.size) := Nat.ne_of_lt Hc4.out.2.2
  clear XB
  refine wpList_to rfl (.pointer (some ⟨x2.heap.size, 0, none⟩)) (x2.alloc (.cells (row 35 (rtV g b (s) H)).toArray 39)) (by simp [go_sem]) ?_
  simp only [zp0, zp1, zp2, zp3]
  generalize x2.alloc (.cells (row 35 (rtV g b (s) H)).toArray 39) = x3 at A0 A1 A2 AE ⊢
  obtain ⟨c5, ec5⟩ : ∃ b, b = x2.heap.size := ⟨_, rfl⟩
  have ABc5 : Hid (w.heap.size ≤ c5) := by rw [ec5]; exact AB.out
  clear AB
  rw [← ec5] at A0 D0 D1 ⊢
  clear ec5
  have Hc5 := A0
  clear A0
  replace Hc3 := A1
  clear A1
  replace Hc4 := A2
  clear A2
  replace hE := AE
  clear AE
  have Dc5_0 := D0
  clear D0
  have Dc5_1 := D1
  clear D1
  refine xm [some (.slice none 0 0), some (.int .i64 0)] (by kernel_rfl) (by simp [xr, go_sem]) ?_
  simp only [xw, p0, p1, p2, p3]
  go_upto_region 1 with (fail)
  refine wp_region_lit ?_
  refine wpList_run rfl (.agg (row 24 (hdv h)).toArray) (xload 37 (.tmp 4) rfl c4 0 24 _ rfl Hc4.out.range Tryd.underlying37 rfl inf37) ?_
  simp only [zp0, zp1, zp2, zp3]
  refine wpList_call rfl (by simp [go_sem]) ((rcheck_no h x3 hk).mono ?_)
  rintro e y2 ⟨rfl, hX2⟩
  refine ⟨_, rfl, ?_⟩
  simp only [zp0, zp1, zp2, zp3]
  replace Hc3 := hideit (Hc3.out.carry hX2)
  replace Hc4 := hideit (Hc4.out.carry hX2)
  replace Hc5 := hideit (Hc5.out.carry hX2)
  replace hE := hideit (Ext.trans hE.out (hX2))
  clear hX2
  refine xm [some (.bool true), some (.bool true), none, none, none, some (.bool true), some (.bool true), none, none, none, none, none, some (.bool true), some (.bool true), none, none, none, none, none, none, none, none, some (.bool true)] (by kernel_rfl) (by simp [xr, go_sem]) ?_
  simp only [xw, p0, p1, p2, p3]
  go_upto_region 2 with (fail)
  refine wp_region_lit ?_
  refine xm [some (.slice none 0 0), some (.int .i64 1)] (by kernel_rfl) (by simp [xr, go_sem]) ?_
  simp only [xw, p0, p1, p2, p3]
  go_wp2
  refine bodyPost_ret (res2 rfl _ _ _) rfl ?_
  exact ⟨rfl, hE.out⟩
set_option maxRecDepth 20000 in
set_option maxHeartbeats 4000000 in
theorem rrb_neg (K : Nat → BitVec 8) (h : Hd) (g : BitVec 64) (b : Bool) (s : Int) (H : Nat → BitVec 8) (w : World) (hk : okH h) (hs : s < 0) : Calls Tryd.prog 13 #[.agg (row 32 (yv K)).toArray, .agg (row 24 (hdv h)).toArray, .agg (row 35 (rtV g b (s) H)).toArray] w fun e w' => e = .returned (.tuple #[.slice none 0 0, .int .i64 1]) ∧ Ext w w' := by
  have hE := hideit (Ext.refl w)
  go_enter Tryd.func13, Tryd.ntmps13
  go_upto_region 0 with (fail)
  refine wp_region_lit ?_
  have A0 := hideit (RowAt.new w 32 (yv K) 31)
  have XB : Ext w (w.alloc (.cells (row 32 (yv K)).toArray 31)) := (Below.refl _ _).alloc (Nat.le_refl _) _
  have AE := hideit (Ext.trans hE.out (XB))
  have AB := hideit (hE.out.size)
  clear XB
  refine wpList_to rfl (.pointer (some ⟨w.heap.size, 0, none⟩)) (w.alloc (.cells (row 32 (yv K)).toArray 31)) (by simp [go_sem]) ?_
  simp only [zp0, zp1, zp2, zp3]
  generalize w.alloc (.cells (row 32 (yv K)).toArray 31) = x1 at A0 AE ⊢
  obtain ⟨c3, ec3⟩ : ∃ b, b = w.heap.size := ⟨_, rfl⟩
  have ABc3 : Hid (w.heap.size ≤ c3) := by rw [ec3]; exact AB.out
  clear AB
  rw [← ec3] at A0  ⊢
  clear ec3
  have Hc3 := A0
  clear A0
  replace hE := AE
  clear AE
  have A0 := hideit (RowAt.new x1 24 (hdv h) 37)
  have XB : Ext x1 (x1.alloc (.cells (row 24 (hdv h)).toArray 37)) := (Below.refl _ _).alloc (Nat.le_refl _) _
  have A1 := hideit (Hc3.out.carry XB)
  have AE := hideit (Ext.trans hE.out (XB))
  have AB := hideit (hE.out.size)
  have D0 : Hid (c3 ≠ x1.heap.size) := Nat.ne_of_lt Hc3.out.2.2
  clear XB
  refine wpList_to rfl (.pointer (some ⟨x1.heap.size, 0, none⟩)) (x1.alloc (.cells (row 24 (hdv h)).toArray 37)) (by simp [go_sem]) ?_
  simp only [zp0, zp1, zp2, zp3]
  generalize x1.alloc (.cells (row 24 (hdv h)).toArray 37) = x2 at A0 A1 AE ⊢
  obtain ⟨c4, ec4⟩ : ∃ b, b = x1.heap.size := ⟨_, rfl⟩
  have ABc4 : Hid (w.heap.size ≤ c4) := by rw [ec4]; exact AB.out
  clear AB
  rw [← ec4] at A0 D0 ⊢
  clear ec4
  have Hc4 := A0
  clear A0
  replace Hc3 := A1
  clear A1
  replace hE := AE
  clear AE
  have Dc4_0 := D0
  clear D0
  have A0 := hideit (RowAt.new x2 35 (rtV g b (s) H) 39)
  have XB : Ext x2 (x2.alloc (.cells (row 35 (rtV g b (s) H)).toArray 39)) := (Below.refl _ _).alloc (Nat.le_refl _) _
  have A1 := hideit (Hc3.out.carry XB)
  have A2 := hideit (Hc4.out.carry XB)
  have AE := hideit (Ext.trans hE.out (XB))
  have AB := hideit (hE.out.size)
  have D0 : Hid (c3 ≠ x2.heap.size) := Nat.ne_of_lt Hc3.out.2.2
  have D1 : Hid (c4 ≠ x2.heap.size) := Nat.ne_of_lt Hc4.out.2.2
  clear XB
  refine wpList_to rfl (.pointer (some ⟨x2.heap.size, 0, none⟩)) (x2.alloc (.cells (row 35 (rtV g b (s) H)).toArray 39)) (by simp [go_sem]) ?_
  simp only [zp0, zp1, zp2, zp3]
  generalize x2.alloc (.cells (row 35 (rtV g b (s) H)).toArray 39) = x3 at A0 A1 A2 AE ⊢
  obtain ⟨c5, ec5⟩ : ∃ b, b = x2.heap.size := ⟨_, rfl⟩
  have ABc5 : Hid (w.heap.size ≤ c5) := by rw [ec5]; exact AB.out
  clear AB
  rw [← ec5] at A0 D0 D1 ⊢
  clear ec5
  have Hc5 := A0
  clear A0
  replace Hc3 := A1
  clear A1
  replace Hc4 := A2
  clear A2
  replace hE := AE
  clear AE
  have Dc5_0 := D0
  clear D0
  have Dc5_1 := D1
  clear D1
  refine xm [some (.slice none 0 0), some (.int .i64 0)] (by kernel_rfl) (by simp [xr, go_sem]) ?_
  simp only [xw, p0, p1, p2, p3]
  go_upto_region 1 with (fail)
  refine wp_region_lit ?_
  refine wpList_run rfl (.agg (row 24 (hdv h)).toArray) (xload 37 (.tmp 4) rfl c4 0 24 _ rfl Hc4.out.range Tryd.underlying37 rfl inf37) ?_
  simp only [zp0, zp1, zp2, zp3]
  refine wpList_call rfl (by simp [go_sem]) ((rcheck_ok h x3 hk).mono ?_)
  rintro e y2 ⟨rfl, hX2⟩
  refine ⟨_, rfl, ?_⟩
  simp only [zp0, zp1, zp2, zp3]
  replace Hc3 := hideit (Hc3.out.carry hX2)
  replace Hc4 := hideit (Hc4.out.carry hX2)
  replace Hc5 := hideit (Hc5.out.carry hX2)
  replace hE := hideit (Ext.trans hE.out (hX2))
  clear hX2
  have m4 : y2.cell? ⟨c5, 2, none⟩ = some (.int .i64 (s)) := Hc5.out.1 2 (by decide)
  refine xm [some (.bool false), some (.bool false), some (.pointer (some ⟨c5, 2, none⟩)), some (.int .i64 (s)), some (.bool true), some (.bool true), some (.bool true), none, none, none, none, none, some (.bool true), some (.bool true), none, none, none, none, none, none, none, none, some (.bool true)] (by kernel_rfl) (by simp [xr, go_sem, m4, hs]) ?_
  simp only [xw, p0, p1, p2, p3]
  clear m4
  go_upto_region 2 with (fail)
  refine wp_region_lit ?_
  refine xm [some (.slice none 0 0), some (.int .i64 1)] (by kernel_rfl) (by simp [xr, go_sem]) ?_
  simp only [xw, p0, p1, p2, p3]
  go_wp2
  refine bodyPost_ret (res2 rfl _ _ _) rfl ?_
  exact ⟨rfl, hE.out⟩
set_option maxRecDepth 20000 in
set_option maxHeartbeats 4000000 in
theorem rrb_big (K : Nat → BitVec 8) (h : Hd) (g : BitVec 64) (b : Bool) (s : Int) (H : Nat → BitVec 8) (w : World) (hk : okH h) (hs : 0 ≤ s) (hs2 : h.se < s) : Calls Tryd.prog 13 #[.agg (row 32 (yv K)).toArray, .agg (row 24 (hdv h)).toArray, .agg (row 35 (rtV g b (s) H)).toArray] w fun e w' => e = .returned (.tuple #[.slice none 0 0, .int .i64 1]) ∧ Ext w w' := by
  have hE := hideit (Ext.refl w)
  go_enter Tryd.func13, Tryd.ntmps13
  go_upto_region 0 with (fail)
  refine wp_region_lit ?_
  have A0 := hideit (RowAt.new w 32 (yv K) 31)
  have XB : Ext w (w.alloc (.cells (row 32 (yv K)).toArray 31)) := (Below.refl _ _).alloc (Nat.le_refl _) _
  have AE := hideit (Ext.trans hE.out (XB))
  have AB := hideit (hE.out.size)
  clear XB
  refine wpList_to rfl (.pointer (some ⟨w.heap.size, 0, none⟩)) (w.alloc (.cells (row 32 (yv K)).toArray 31)) (by simp [go_sem]) ?_
  simp only [zp0, zp1, zp2, zp3]
  generalize w.alloc (.cells (row 32 (yv K)).toArray 31) = x1 at A0 AE ⊢
  obtain ⟨c3, ec3⟩ : ∃ b, b = w.heap.size := ⟨_, rfl⟩
  have ABc3 : Hid (w.heap.size ≤ c3) := by rw [ec3]; exact AB.out
  clear AB
  rw [← ec3] at A0  ⊢
  clear ec3
  have Hc3 := A0
  clear A0
  replace hE := AE
  clear AE
  have A0 := hideit (RowAt.new x1 24 (hdv h) 37)
  have XB : Ext x1 (x1.alloc (.cells (row 24 (hdv h)).toArray 37)) := (Below.refl _ _).alloc (Nat.le_refl _) _
  have A1 := hideit (Hc3.out.carry XB)
  have AE := hideit (Ext.trans hE.out (XB))
  have AB := hideit (hE.out.size)
  have D0 : Hid (c3 ≠ x1.heap.size) := Nat.ne_of_lt Hc3.out.2.2
  clear XB
  refine wpList_to rfl (.pointer (some ⟨x1.heap.size, 0, none⟩)) (x1.alloc (.cells (row 24 (hdv h)).toArray 37)) (by simp [go_sem]) ?_
  simp only [zp0, zp1, zp2, zp3]
  generalize x1.alloc (.cells (row 24 (hdv h)).toArray 37) = x2 at A0 A1 AE ⊢
  obtain ⟨c4, ec4⟩ : ∃ b, b = x1.heap.size := ⟨_, rfl⟩
  have ABc4 : Hid (w.heap.size ≤ c4) := by rw [ec4]; exact AB.out
  clear AB
  rw [← ec4] at A0 D0 ⊢
  clear ec4
  have Hc4 := A0
  clear A0
  replace Hc3 := A1
  clear A1
  replace hE := AE
  clear AE
  have Dc4_0 := D0
  clear D0
  have A0 := hideit (RowAt.new x2 35 (rtV g b (s) H) 39)
  have XB : Ext x2 (x2.alloc (.cells (row 35 (rtV g b (s) H)).toArray 39)) := (Below.refl _ _).alloc (Nat.le_refl _) _
  have A1 := hideit (Hc3.out.carry XB)
  have A2 := hideit (Hc4.out.carry XB)
  have AE := hideit (Ext.trans hE.out (XB))
  have AB := hideit (hE.out.size)
  have D0 : Hid (c3 ≠ x2.heap.size) := Nat.ne_of_lt Hc3.out.2.2
  have D1 : Hid (c4 ≠ x2.heap.size) := Nat.ne_of_lt Hc4.out.2.2
  clear XB
  refine wpList_to rfl (.pointer (some ⟨x2.heap.size, 0, none⟩)) (x2.alloc (.cells (row 35 (rtV g b (s) H)).toArray 39)) (by simp [go_sem]) ?_
  simp only [zp0, zp1, zp2, zp3]
  generalize x2.alloc (.cells (row 35 (rtV g b (s) H)).toArray 39) = x3 at A0 A1 A2 AE ⊢
  obtain ⟨c5, ec5⟩ : ∃ b, b = x2.heap.size := ⟨_, rfl⟩
  have ABc5 : Hid (w.heap.size ≤ c5) := by rw [ec5]; exact AB.out
  clear AB
  rw [← ec5] at A0 D0 D1 ⊢
  clear ec5
  have Hc5 := A0
  clear A0
  replace Hc3 := A1
  clear A1
  replace Hc4 := A2
  clear A2
  replace hE := AE
  clear AE
  have Dc5_0 := D0
  clear D0
  have Dc5_1 := D1
  clear D1
  refine xm [some (.slice none 0 0), some (.int .i64 0)] (by kernel_rfl) (by simp [xr, go_sem]) ?_
  simp only [xw, p0, p1, p2, p3]
  go_upto_region 1 with (fail)
  refine wp_region_lit ?_
  refine wpList_run rfl (.agg (row 24 (hdv h)).toArray) (xload 37 (.tmp 4) rfl c4 0 24 _ rfl Hc4.out.range Tryd.underlying37 rfl inf37) ?_
  simp only [zp0, zp1, zp2, zp3]
  refine wpList_call rfl (by simp [go_sem]) ((rcheck_ok h x3 hk).mono ?_)
  rintro e y2 ⟨rfl, hX2⟩
  refine ⟨_, rfl, ?_⟩
  simp only [zp0, zp1, zp2, zp3]
  replace Hc3 := hideit (Hc3.out.carry hX2)
  replace Hc4 := hideit (Hc4.out.carry hX2)
  replace Hc5 := hideit (Hc5.out.carry hX2)
  replace hE := hideit (Ext.trans hE.out (hX2))
  clear hX2
  have m4 : y2.cell? ⟨c5, 2, none⟩ = some (.int .i64 (s)) := Hc5.out.1 2 (by decide)
  have m6 : y2.cell? ⟨c4, 1, none⟩ = some (.int .i64 (h.se)) := Hc4.out.1 1 (by decide)
  refine xm [some (.bool false), some (.bool false), some (.pointer (some ⟨c5, 2, none⟩)), some (.int .i64 (s)), some (.bool false), some (.bool false), some (.bool false), some (.pointer (some ⟨c5, 2, none⟩)), some (.int .i64 (s)), some (.pointer (some ⟨c4, 1, none⟩)), some (.int .i64 (h.se)), some (.bool true), some (.bool true), some (.bool true), none, none, none, none, none, none, none, none, some (.bool true)] (by kernel_rfl) (by simp [xr, go_sem, m4, hs, m6, hs2]) ?_
  simp only [xw, p0, p1, p2, p3]
  clear m4
  clear m6
  go_upto_region 2 with (fail)
  refine wp_region_lit ?_
  refine xm [some (.slice none 0 0), some (.int .i64 1)] (by kernel_rfl) (by simp [xr, go_sem]) ?_
  simp only [xw, p0, p1, p2, p3]
  go_wp2
  refine bodyPost_ret (res2 rfl _ _ _) rfl ?_
  exact ⟨rfl, hE.out⟩
set_option maxRecDepth 20000 in
set_option maxHeartbeats 4000000 in
theorem rrb_on (K : Nat → BitVec 8) (h : Hd) (g : BitVec 64) (s : Int) (H : Nat → BitVec 8) (w : World) (hk : okH h) (hs : 0 ≤ s) (hs2 : s ≤ h.se) (hs3 : ¬ s = 0) : Calls Tryd.prog 13 #[.agg (row 32 (yv K)).toArray, .agg (row 24 (hdv h)).toArray, .agg (row 35 (rtV g false (s) H)).toArray] w fun e w' => e = .returned (.tuple #[.slice none 0 0, .int .i64 1]) ∧ Ext w w' := by
  have hE := hideit (Ext.refl w)
  go_enter Tryd.func13, Tryd.ntmps13
  go_upto_region 0 with (fail)
  refine wp_region_lit ?_
  have A0 := hideit (RowAt.new w 32 (yv K) 31)
  have XB : Ext w (w.alloc (.cells (row 32 (yv K)).toArray 31)) := (Below.refl _ _).alloc (Nat.le_refl _) _
  have AE := hideit (Ext.trans hE.out (XB))
  have AB := hideit (hE.out.size)
  clear XB
  refine wpList_to rfl (.pointer (some ⟨w.heap.size, 0, none⟩)) (w.alloc (.cells (row 32 (yv K)).toArray 31)) (by simp [go_sem]) ?_
  simp only [zp0, zp1, zp2, zp3]
  generalize w.alloc (.cells (row 32 (yv K)).toArray 31) = x1 at A0 AE ⊢
  obtain ⟨c3, ec3⟩ : ∃ b, b = w.heap.size := ⟨_, rfl⟩
  have ABc3 : Hid (w.heap.size ≤ c3) := by rw [ec3]; exact AB.out
  clear AB
  rw [← ec3] at A0  ⊢
  clear ec3
  have Hc3 := A0
  clear A0
  replace hE := AE
  clear AE
  have A0 := hideit (RowAt.new x1 24 (hdv h) 37)
  have XB : Ext x1 (x1.alloc (.cells (row 24 (hdv h)).toArray 37)) := (Below.refl _ _).alloc (Nat.le_refl _) _
  have A1 := hideit (Hc3.out.carry XB)
  have AE := hideit (Ext.trans hE.out (XB))
  have AB := hideit (hE.out.size)
  have D0 : Hid (c3 ≠ x1.heap.size) := Nat.ne_of_lt Hc3.out.2.2
  clear XB
  refine wpList_to rfl (.pointer (some ⟨x1.heap.size, 0, none⟩)) (x1.alloc (.cells (row 24 (hdv h)).toArray 37)) (by simp [go_sem]) ?_
  simp only [zp0, zp1, zp2, zp3]
  generalize x1.alloc (.cells (row 24 (hdv h)).toArray 37) = x2 at A0 A1 AE ⊢
  obtain ⟨c4, ec4⟩ : ∃ b, b = x1.heap.size := ⟨_, rfl⟩
  have ABc4 : Hid (w.heap.size ≤ c4) := by rw [ec4]; exact AB.out
  clear AB
  rw [← ec4] at A0 D0 ⊢
  clear ec4
  have Hc4 := A0
  clear A0
  replace Hc3 := A1
  clear A1
  replace hE := AE
  clear AE
  have Dc4_0 := D0
  clear D0
  have A0 := hideit (RowAt.new x2 35 (rtV g false (s) H) 39)
  have XB : Ext x2 (x2.alloc (.cells (row 35 (rtV g false (s) H)).toArray 39)) := (Below.refl _ _).alloc (Nat.le_refl _) _
  have A1 := hideit (Hc3.out.carry XB)
  have A2 := hideit (Hc4.out.carry XB)
  have AE := hideit (Ext.trans hE.out (XB))
  have AB := hideit (hE.out.size)
  have D0 : Hid (c3 ≠ x2.heap.size) := Nat.ne_of_lt Hc3.out.2.2
  have D1 : Hid (c4 ≠ x2.heap.size) := Nat.ne_of_lt Hc4.out.2.2
  clear XB
  refine wpList_to rfl (.pointer (some ⟨x2.heap.size, 0, none⟩)) (x2.alloc (.cells (row 35 (rtV g false (s) H)).toArray 39)) (by simp [go_sem]) ?_
  simp only [zp0, zp1, zp2, zp3]
  generalize x2.alloc (.cells (row 35 (rtV g false (s) H)).toArray 39) = x3 at A0 A1 A2 AE ⊢
  obtain ⟨c5, ec5⟩ : ∃ b, b = x2.heap.size := ⟨_, rfl⟩
  have ABc5 : Hid (w.heap.size ≤ c5) := by rw [ec5]; exact AB.out
  clear AB
  rw [← ec5] at A0 D0 D1 ⊢
  clear ec5
  have Hc5 := A0
  clear A0
  replace Hc3 := A1
  clear A1
  replace Hc4 := A2
  clear A2
  replace hE := AE
  clear AE
  have Dc5_0 := D0
  clear D0
  have Dc5_1 := D1
  clear D1
  refine xm [some (.slice none 0 0), some (.int .i64 0)] (by kernel_rfl) (by simp [xr, go_sem]) ?_
  simp only [xw, p0, p1, p2, p3]
  go_upto_region 1 with (fail)
  refine wp_region_lit ?_
  refine wpList_run rfl (.agg (row 24 (hdv h)).toArray) (xload 37 (.tmp 4) rfl c4 0 24 _ rfl Hc4.out.range Tryd.underlying37 rfl inf37) ?_
  simp only [zp0, zp1, zp2, zp3]
  refine wpList_call rfl (by simp [go_sem]) ((rcheck_ok h x3 hk).mono ?_)
  rintro e y2 ⟨rfl, hX2⟩
  refine ⟨_, rfl, ?_⟩
  simp only [zp0, zp1, zp2, zp3]
  replace Hc3 := hideit (Hc3.out.carry hX2)
  replace Hc4 := hideit (Hc4.out.carry hX2)
  replace Hc5 := hideit (Hc5.out.carry hX2)
  replace hE := hideit (Ext.trans hE.out (hX2))
  clear hX2
  have m4 : y2.cell? ⟨c5, 2, none⟩ = some (.int .i64 (s)) := Hc5.out.1 2 (by decide)
  have m6 : y2.cell? ⟨c4, 1, none⟩ = some (.int .i64 (h.se)) := Hc4.out.1 1 (by decide)
  have m7 : y2.cell? ⟨c5, 1, none⟩ = some (.bool false) := Hc5.out.1 1 (by decide)
  refine xm [some (.bool false), some (.bool false), some (.pointer (some ⟨c5, 2, none⟩)), some (.int .i64 (s)), some (.bool false), some (.bool false), some (.bool false), some (.pointer (some ⟨c5, 2, none⟩)), some (.int .i64 (s)), some (.pointer (some ⟨c4, 1, none⟩)), some (.int .i64 (h.se)), some (.bool false), some (.bool false), some (.bool false), some (.pointer (some ⟨c5, 1, none⟩)), some (.bool false), some (.bool true), some (.bool true), some (.pointer (some ⟨c5, 2, none⟩)), some (.int .i64 (s)), some (.bool true), some (.bool true), some (.bool true)] (by kernel_rfl) (by simp [xr, go_sem, m4, hs, m6, hs2, m7, hs3]) ?_
  simp only [xw, p0, p1, p2, p3]
  clear m4
  clear m6
  clear m7
  go_upto_region 2 with (fail)
  refine wp_region_lit ?_
  refine xm [some (.slice none 0 0), some (.int .i64 1)] (by kernel_rfl) (by simp [xr, go_sem]) ?_
  simp only [xw, p0, p1, p2, p3]
  go_wp2
  refine bodyPost_ret (res2 rfl _ _ _) rfl ?_
  exact ⟨rfl, hE.out⟩
theorem rrb_no (K : Nat → BitVec 8) (h : Hd) (g : BitVec 64) (b : Bool) (s : Int) (H : Nat → BitVec 8) (w : World) (hq : okH h → mbB h b s = false) : Calls Tryd.prog 13 #[.agg (row 32 (yv K)).toArray, .agg (row 24 (hdv h)).toArray, .agg (row 35 (rtV g b (s) H)).toArray] w fun e w' => e = .returned (.tuple #[.slice none 0 0, .int .i64 1]) ∧ Ext w w' := by
  by_cases hk : okH h
  · have hm := hq hk
    have hse : 1 ≤ h.se := by have := hk.1; unfold okA at this; omega
    by_cases h1 : s < 0
    · exact rrb_neg K h g b s H w hk h1
    · by_cases h2 : h.se < s
      · exact rrb_big K h g b s H w hk (by omega) h2
      · unfold mbB at hm
        cases b
        · rw [if_neg (by decide)] at hm
          exact rrb_on K h g s H w hk (by omega) (by omega) (of_decide_eq_false hm)
        · rw [if_pos rfl] at hm
          exact absurd ⟨by omega, by omega⟩ (of_decide_eq_false hm)
  · exact rrb_head K h g b s H w hk
end Go.Proofs.YtgjabfjkokpkiaaDoor
