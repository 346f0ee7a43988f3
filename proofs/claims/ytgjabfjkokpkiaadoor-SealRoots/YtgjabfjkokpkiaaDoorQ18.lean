/-
  Bytes, nil or not, wherever they lie; parts one behind the other. Bytes, nil or not, appended to a slice of the call's own.
-/
import Derived.Test.YtgjabfjkokpkiaaDoorQ13
import Derived.Test.YtgjabfjkokpkiaaDoorQ17
import Derived.Lib.SlBytesConst
namespace Go.Proofs.YtgjabfjkokpkiaaDoor
set_option maxRecDepth 20000
open Go.RowKit Go.BigFrame
theorem BV.form {v : Value} {l : Nat} {b : Nat → BitVec 8} {w : World} (h : BV v l b w) : ∃ oa cp, v = .slice oa l cp := by
  rcases h with ⟨h, h0⟩ | ⟨a, cap, h, _⟩
  · exact ⟨none, 0, by rw [h, h0]⟩
  · exact ⟨_, cap, h⟩
theorem constB (w : World) (C : Array Value) (n : Nat) (f : Nat → BitVec 8) (hC : ∀ j, j < n → C[j]? = some (yv f j)) : ∃ X, (convert 22 22 (.slice (some ⟨w.heap.size, 0, none⟩) n n)).run Tryd.prog (w.alloc (.cells C 5)) = .ok (.slice (some ⟨w.heap.size, 0, none⟩) n n) X ∧ BV (.slice (some ⟨w.heap.size, 0, none⟩) n n) n f X ∧ Ext w X :=
  ⟨_, mark_const w C n, .inr ⟨_, n, rfl, Nat.le_refl _, lie_new w n C 5 _ f hC⟩, (Below.refl _ _).alloc (Nat.le_refl _) _⟩
theorem newB (w : World) (C : Array Value) (n : Nat) (f : Nat → BitVec 8) (hC : ∀ j, j < n → C[j]? = some (yv f j)) : BV (.slice (some ⟨w.heap.size, 0, none⟩) n n) n f (w.alloc (.cells C 5)) ∧ Ext w (w.alloc (.cells C 5)) :=
  ⟨.inr ⟨_, n, rfl, Nat.le_refl _, lie_new w n C 5 (0, 0) f hC⟩, (Below.refl _ _).alloc (Nat.le_refl _) _⟩
end Go.Proofs.YtgjabfjkokpkiaaDoor
namespace Go.Proofs.YtgjabfjkokpkiaaDoor
open Go.RowKit Go.BigFrame
theorem grown_refl (w : World) (r : Option Nat) : w.grownBy w r := ⟨rfl, rfl, rfl, Nat.le_refl _, fun _ _ _ => rfl⟩
theorem BV.grown {v : Value} {l : Nat} {b : Nat → BitVec 8} {w X : World} {row : Option Nat} (h : BV v l b w) (hg : w.grownBy X row) (hne : ∀ k, row = some k → ∀ a n c, v = .slice (some a) n c → a.block ≠ k) : BV v l b X := by
  rcases h with h | ⟨a, cap, h1, h2, h3⟩
  · exact .inl h
  · refine .inr ⟨a, cap, h1, h2, fun j hj => ?_, Nat.lt_of_lt_of_le h3.2 hg.size⟩
    have hb := hg.block a.block h3.2 (fun e => hne a.block e.symm a l cap h1 rfl)
    exact (World.cell?_of_block (a := a.add j) (by rw [add_block]; exact hb)).trans (h3.1 j hj)
theorem wpList_growV {P : Program} {ops : Array Oper} {rest : List Oper} {o : Oper} {a : Act} {Q : Exit → Act → World → Prop} {t e : TypeId} {base n : Nat} {v : Value} {g : Nat → Value} {w : World} (E : ElemIs P t e) (hgd : o.guard = none) (s x : Operand)
    (ho : o.op = .call { callee := .builtin .append, args := #[s, x], argTypes := #[t, t] }) (hs : a.eval s = v) (hown : OwnB base e v n g w)
    (xv : Value) (l : Nat) (b : Nat → BitVec 8) (f : Nat → Value) (hx : a.eval x = xv) (hb : BV xv l b w) (hf1 : ∀ j, j < n → g j = f j) (hf2 : ∀ j, j < l → yv b j = f (n + j))
    (hbytes : n + l ≤ 140737488355328) (hbase : base ≤ w.heap.size)
    (h : ∀ v' w', OwnB base e v' (n + l) f w' → w.grownBy w' v.ownBlock → wpList P ops Q rest (a.put o.dst v') w') : wpList P ops Q (o :: rest) a w := by
  rcases hb with ⟨rfl, rfl⟩ | ⟨ad, cap, rfl, h2, h3⟩
  · exact wpList_grow_none E hgd s x ho hs hown hx (h v w (hown.congr hf1) (grown_refl _ _))
  · exact wpList_grow E hgd s x ho hs hown ad l cap (yv b) f hx h3 (fun _ _ => rfl) hf1 hf2 hbytes hbase h
end Go.Proofs.YtgjabfjkokpkiaaDoor
