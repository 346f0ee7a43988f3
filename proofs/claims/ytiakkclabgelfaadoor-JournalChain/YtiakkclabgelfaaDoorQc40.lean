/-
  What must come of every program. A disk with power, as two arrays of blocks.
-/
import Derived.Test.YtiakkclabgelfaaDoorQc39
import Derived.Test.YtiakkclabgelfaaDoorQc12
import Derived.Test.YtiakkclabgelfaaDoorQc29
import Derived.Test.YtiakkclabgelfaaDoorQc31
import Derived.Test.YtiakkclabgelfaaDoorQc32
import Derived.Test.YtiakkclabgelfaaDoorQc33
import Derived.Test.YtiakkclabgelfaaDoorQc34
namespace Go.Proofs.YtiakkclabgelfaaDoor
set_option maxRecDepth 20000
open Go.RowKit Go.BigFrame
theorem markF_num (x : BitVec 64) (j : Nat) (hj : j < 8) : markF x (4 + j) = byB x j := by
  unfold markF padF catF begF catF
  rw [if_pos (by omega), if_pos (by omega), if_neg (by omega), show 4 + j - 4 = j by omega]
theorem nP_mark (x : BitVec 64) : nP (markF x) = x := le_by _ x fun j hj => markF_num x j hj
theorem isMk_mark (x : BitVec 64) (hx : x ≠ 0#64) : isMk 512 (markF x) := by
  unfold isMk
  rw [nP_mark]
  exact ⟨hx, decide_eq_true ⟨rfl, fun _ _ => rfl⟩⟩
end Go.Proofs.YtiakkclabgelfaaDoor
namespace Go.Proofs.YtiakkclabgelfaaDoor
open Go.RowKit Go.BigFrame Go.Maps
set_option linter.unusedVariables false
set_option maxRecDepth 20000
def DV (F : Nat → Prop) (p N : Nat) (A D : Nat → Nat → BitVec 8) (C : Nat) (W : World) : Prop := ∃ s M, DkM F p s C M W ∧ s.N = N ∧ s.pw = -1 ∧ ∀ n, n < N → ∀ j, j < 512 → s.S n j = A n j ∧ hasF s n j = D n j
section
variable {F G : Nat → Prop} {p N C : Nat} {A D : Nat → Nat → BitVec 8} {W Y : World}
theorem DV.ext (h : DV F p N A D C W) (k : Ext W Y) : DV F p N A D C Y := by
  obtain ⟨s, M, h1, h2⟩ := h
  exact ⟨s, M, h1.ext k, h2⟩
theorem DV.keep (h : DV F p N A D C W) (k : Keeps G W Y) (hd : ∀ i, F i → ¬ G i) (hG : ∀ i, G i → ¬ IsB i W) : DV F p N A D C Y := by
  obtain ⟨s, M, h1, h2⟩ := h
  exact ⟨s, M, h1.keep k hd hG, h2⟩
theorem DV.lt (h : DV F p N A D C W) : ∀ i, F i → i < W.heap.size := by
  obtain ⟨s, M, h1, h2⟩ := h
  exact h1.lt
theorem DV.nb (h : DV F p N A D C W) : ∀ i, F i → ¬ IsB i W := by
  obtain ⟨s, M, h1, h2⟩ := h
  exact h1.nb
theorem DV.fp (h : DV F p N A D C W) : F p := by
  obtain ⟨s, M, h1, h2⟩ := h
  exact h1.fp
theorem DV.n4 (h : DV F p N A D C W) : N ≤ 4096 := by
  obtain ⟨s, M, h1, h2, _⟩ := h
  rw [← h2]
  exact h1.n4
theorem DV.mono {C' : Nat} (h : DV F p N A D C W) (hC : C ≤ C') : DV F p N A D C' W := by
  obtain ⟨s, M, h1, h2⟩ := h
  exact ⟨s, M, h1.mono hC, h2⟩
theorem DV.congr {A' D' : Nat → Nat → BitVec 8} (h : DV F p N A D C W) (hA : ∀ n, n < N → ∀ j, j < 512 → A n j = A' n j) (hD : ∀ n, n < N → ∀ j, j < 512 → D n j = D' n j) : DV F p N A' D' C W := by
  obtain ⟨s, M, h1, h2, h3, h4⟩ := h
  exact ⟨s, M, h1, h2, h3, fun n hn j hj => ⟨(h4 n hn j hj).1.trans (hA n hn j hj), (h4 n hn j hj).2.trans (hD n hn j hj)⟩⟩
theorem dv_len (h : DV F p N A D C W) : Calls Tryd.prog 48 #[.pointer (some ⟨p, 0, none⟩)] W fun e w' => e = .returned (.int .i64 (N : Int)) ∧ w' = W := by
  obtain ⟨s, M, h1, rfl, _⟩ := h
  exact dlen h1
theorem dv_read (h : DV F p N A D C W) (n : Nat) (hn : n < N) (hC : C ≤ 4398046511104) : Calls Tryd.prog 33 #[.pointer (some ⟨p, 0, none⟩), .int .i64 (n : Int)] W fun e w' => ∃ v, e = .returned (.tuple #[v, .int .i64 0]) ∧ OwnB W.heap.size 5 v 512 (yv (D n)) w' ∧ Ext W w' := by
  obtain ⟨s, M, h1, rfl, h3, h4⟩ := h
  refine (dread h1 n hn (by rw [h3]; decide) hC).mono fun e w' ⟨v, a, b, c⟩ => ⟨v, a, b.congr fun j hj => ?_, c⟩
  unfold yv
  rw [(h4 n hn j hj).2]
theorem hasF_wr (s : DSt) (n m : Nat) (f : Nat → BitVec 8) : hasF (wrS s n f) m = if m = n then f else hasF s m := by
  show (if upN s.kc n (s.kc n + 1) m = 0 then s.S m else upN s.uc n (upN (s.uc n) (s.kc n) f) m (upN s.kc n (s.kc n + 1) m - 1)) = _
  by_cases e : m = n
  · subst e
    rw [upN_same, upN_same, if_neg (Nat.succ_ne_zero _), Nat.add_sub_cancel, upN_same, if_pos rfl]
  · rw [upN_other _ e, upN_other _ e, if_neg e]
    rfl
theorem dv_write (h : DV F p N A D C W) (n : Nat) (hn : n < N) (o : Option Addr) (cap : Nat) (f : Nat → BitVec 8) (hb : BV (.slice o 512 cap) 512 f W) (hC : C ≤ 4398046511104) : Calls Tryd.prog 50 #[.pointer (some ⟨p, 0, none⟩), .int .i64 (n : Int), .slice o 512 cap] W fun e w' => e = .returned (.int .i64 0) ∧ ∃ F', DV F' p N A (upN D n f) (C + 1) w' ∧ Keeps F W w' ∧ ∀ i, F' i → F i ∨ W.heap.size ≤ i := by
  obtain ⟨s, M, h1, rfl, h3, h4⟩ := h
  refine (dwrite h1 n hn (by rw [h3]; decide) o cap f hb hC).mono fun e w' ⟨a, F', M', b, c, d⟩ => ⟨a, F', ⟨_, M', b, rfl, ?_, fun m hm j hj => ⟨(h4 m hm j hj).1, ?_⟩⟩, c, d⟩
  · show spE s.pw = -1
    rw [h3]
    rfl
  · rw [hasF_wr]
    unfold upN
    by_cases e : m = n
    · rw [if_pos e, if_pos e]
    · rw [if_neg e, if_neg e]
      exact (h4 m hm j hj).2
theorem dv_flush (h : DV F p N A D C W) (hC : C ≤ 4398046511104) : Calls Tryd.prog 19 #[.pointer (some ⟨p, 0, none⟩)] W fun e w' => e = .returned (.int .i64 0) ∧ DV F p N D D C w' ∧ Keeps F W w' := by
  obtain ⟨s, M, h1, rfl, h3, h4⟩ := h
  refine (dflush h1 (by rw [h3]; decide) hC).mono fun e w' ⟨a, M', b, c⟩ => ⟨a, ⟨_, M', b, rfl, ?_, fun m hm j hj => ⟨(h4 m hm j hj).2, (h4 m hm j hj).2⟩⟩, c⟩
  show spE s.pw = -1
  rw [h3]
  rfl
theorem dv_crash (h : DV F p N A D C W) (hC : C ≤ 4398046511104) : Calls Tryd.prog 20 #[.pointer (some ⟨p, 0, none⟩), .slice none 0 0] W fun e w' => e = .returned (.int .i64 0) ∧ DV F p N A A C w' ∧ Keeps F W w' := by
  obtain ⟨s, M, h1, rfl, h3, h4⟩ := h
  refine (dcrash (kb := fun _ => 0) (kw := fun _ => 0) h1 (.slice none 0 0) 0 (.inl ⟨rfl, rfl⟩) (fun i hi => absurd hi (Nat.not_lt_zero _)) (Nat.zero_le _) (fun i hi => absurd hi (Nat.not_lt_zero _)) hC).mono fun e w' ⟨a, M', b, c⟩ => ⟨a, ⟨_, M', b, rfl, rfl, fun m hm j hj => ⟨(h4 m hm j hj).1, (h4 m hm j hj).1⟩⟩, c⟩
end
theorem dv_new (n : Nat) (h1 : 1 ≤ n) (h2 : n ≤ 4096) (w : World) : Calls Tryd.prog 14 #[.int .i64 (n : Int)] w fun e w' => ∃ p F, e = .returned (.tuple #[.pointer (some ⟨p, 0, none⟩), .int .i64 0]) ∧ DV F p n (fun _ _ => 0#8) (fun _ _ => 0#8) 0 w' ∧ Ext w w' ∧ ∀ i, F i → w.heap.size ≤ i :=
  (dnew n h1 h2 w).mono fun e w' ⟨p, F, M, a, b, c, d⟩ => ⟨p, F, a, ⟨_, M, b, rfl, rfl, fun m hm j hj => ⟨rfl, rfl⟩⟩, c, d⟩
theorem Keeps.setCell {F : Nat → Prop} {w X : World} (h : Keeps F w X) {b i : Nat} (hp : F b ∨ w.heap.size ≤ b) (v : Value) : Keeps F w (X.setCell ⟨b, i, Option.none⟩ v) :=
  h.trans (F' := fun k => k = b) (Keeps.of_grown (but_setCell X b i v) fun c hc => by cases hc; exact .inl rfl) fun k hk => hk ▸ hp
theorem row1_new (w : World) (v : Value) (t : TypeId) : RowAt w.heap.size 1 (fun _ => v) (w.alloc (.cells #[v] t)) := RowAt.new w 1 (fun _ => v) t
def fnV (g : Nat → FuncId) (bd fr : Nat → Array Value) (j : Nat) : Value := .func (.func (g j)) (bd j) (fr j)
theorem xcallV {P : Program} {o : Oper} {a : Act} {w : World} {x : Operand} {g : FuncId} {bd fr : Array Value} (ho : o.op = .call { callee := .value x, args := #[], argTypes := #[] }) (hx : a.eval x = .func (.func g) bd fr) (h : ∀ args X, (callFunc g args).run P X = .ok (.enter g args) X) : (execOp a.eval o).run P w = .ok (.enter g (bd ++ fr)) w := by
  unfold execOp
  rw [ho]
  generalize a.eval = ρ at hx ⊢
  simp [hx, h, go_sem]
end Go.Proofs.YtiakkclabgelfaaDoor
