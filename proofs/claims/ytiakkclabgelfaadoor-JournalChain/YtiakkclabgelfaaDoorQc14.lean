/-
  Bytes, nil or not, appended to a slice of the call's own. Readers: bytes cloned, widths, what a Reader has and passes over; for every Reader in every world.
-/
import Derived.Test.YtiakkclabgelfaaDoorQc13
import Derived.Test.YtiakkclabgelfaaDoorQc1
import Derived.Lib.BufferMore
namespace Go.Proofs.YtiakkclabgelfaaDoor
open Go.RowKit Go.BigFrame
theorem grown_refl (w : World) (r : Option Nat) : w.grownBy w r := ⟨rfl, rfl, rfl, Nat.le_refl _, fun _ _ _ => rfl⟩
theorem BV.grown {v : Value} {l : Nat} {b : Nat → BitVec 8} {w X : World} {row : Option Nat} (h : BV v l b w) (hg : w.grownBy X row) (hne : ∀ k, row = some k → ∀ a n c, v = .slice (some a) n c → a.block ≠ k) : BV v l b X := by
  rcases h with h | ⟨a, cap, h1, h2, h3⟩
  · exact .inl h
  · refine .inr ⟨a, cap, h1, h2, fun j hj => ?_, Nat.lt_of_lt_of_le h3.2 hg.size⟩
    have hb := hg.block a.block h3.2 (fun e => hne a.block e.symm a l cap h1 rfl)
    exact (World.cell?_of_block (a := a.add j) (by rw [add_block]; exact hb)).trans (h3.1 j hj)
theorem wpList_growV {P : Program} {ops : Array Oper} {rest : List Oper} {o : Oper} {a : Act} {Q : Exit → Act → World → Prop} {t e : TypeId} {base n : Nat} {v : Value} {g : Nat → Value} {w : World} (E : ElemIs P t e) (hgd : o.guard = none) (s x : Operand)
    (ho : o.op = .call { callee := .builtin .append, args := #[s, x], argTypes := #[t, t] }) (hs : a.eval s = v) (hown : OwnB base e v n g w)
    (xv : Value) (l : Nat) (b : Nat → BitVec 8) (f : Nat → Value) (hx : a.eval x = xv) (hb : BV xv l b w) (hf1 : ∀ j, j < n → g j = f j) (hf2 : ∀ j, j < l → yv b j = f (n + j))
    (hbytes : n + l ≤ 140737488355328) (hbase : base ≤ w.heap.size)
    (h : ∀ v' w', OwnB base e v' (n + l) f w' → w.grownBy w' v.ownBlock → wpList P ops Q rest (a.put o.dst v') w') : wpList P ops Q (o :: rest) a w := by
  rcases hb with ⟨rfl, rfl⟩ | ⟨ad, cap, rfl, h2, h3⟩
  · exact wpList_grow_none E hgd s x ho hs hown hx (h v w (hown.congr hf1) (grown_refl _ _))
  · exact wpList_grow E hgd s x ho hs hown ad l cap (yv b) f hx h3 (fun _ _ => rfl) hf1 hf2 hbytes hbase h
end Go.Proofs.YtiakkclabgelfaaDoor
namespace Go.Proofs.YtiakkclabgelfaaDoor
set_option maxRecDepth 20000
open Go.RowKit Go.BigFrame
theorem grownE {w X Y : World} {e : TypeId} {v : Value} {n base : Nat} {g : Nat → Value} (hE : Ext w X) (hO : OwnB base e v n g X) (hb : w.heap.size ≤ base) (hg : X.grownBy Y v.ownBlock) : Ext w Y :=
  Below.trans hE (below_grown (Below.size hE) hg fun k hk => Nat.le_trans hb (hO.lt k hk).1)
set_option maxRecDepth 20000 in
theorem clone_any (v : Value) (l : Nat) (b : Nat → BitVec 8) (w : World) (h : BV v l b w) (hl : l ≤ 140737488355328) :
    Calls Tryd.prog 57 #[v] w fun e w' => ∃ v', e = .returned v' ∧ OwnB w.heap.size 5 v' l (yv b) w' ∧ Ext w w' := by
  rcases h with ⟨rfl, rfl⟩ | ⟨a, cap, rfl, h2, h3⟩
  · have hq := fun X : World => Go.Lib.run_eql_slice_nil_nil (P := Tryd.prog) X 0 0 Tryd.underlying39
    go_enter Tryd.func57, Tryd.ntmps57
    go_wp2
    go_ret
    exact ⟨_, rfl, own_nil _ _ _ _, Ext.refl _⟩
  · have hE : Ext w (w.alloc (.cells #[] 5)) := (Below.refl _ _).alloc (Nat.le_refl _) _
    have hO := own_empty w w.heap.size 5 (yv b) (Nat.le_refl _)
    have hB : BV (.slice (some a) l cap) l b (w.alloc (.cells #[] 5)) := .inr ⟨a, cap, rfl, h2, h3.carry hE⟩
    replace hE := hideit hE
    replace hO := hideit hO
    replace hB := hideit hB
    clear h3
    have hq := fun X : World => Go.Lib.run_eql_slice_some_nil (P := Tryd.prog) X a l cap Tryd.underlying39
    go_enter Tryd.func57, Tryd.ntmps57
    go_upto_region 3 with (fail)
    refine wp_region_lit ?_
    refine wpList_to rfl (.slice (some ⟨w.heap.size, 0, none⟩) 0 0) (w.alloc (.cells #[] 5)) (by simp [go_sem]) ?_
    simp only [zp0, zp1, zp2, zp3]
    refine wpList_run rfl (.slice (some a) l cap) (by simp [go_sem]) ?_
    simp only [zp0, zp1, zp2, zp3]
    refine wpList_growV (n := 0) (base := w.heap.size) elem22 rfl (.tmp 5) (.tmp 6) rfl rfl hO.out (.slice (some a) l cap) l b (yv b) rfl hB.out (fun _ _ => rfl) (fun j hj => by rw [Nat.zero_add]) (by omega) (Below.size hE.out) ?_
    intro v1 w1 hO1 hg1
    rw [Nat.zero_add] at hO1
    have hE1 := hideit (grownE hE.out hO.out (Nat.le_refl _) hg1)
    replace hO1 := hideit hO1
    obtain ⟨o1, c1, rfl⟩ := hO1.out.bv.form
    simp only [zp0, zp1, zp2, zp3]
    clear hE hO hg1 hB
    go_wp2
    go_ret
    exact ⟨_, rfl, hO1.out, hE1.out⟩
def iswB (n : Int) : Bool := n == 1 || n == 2 || n == 4 || n == 8
theorem isw_any (n : Int) (w : World) : Calls Tryd.prog 81 #[.int .i64 n] w fun e w' => e = .returned (.bool (iswB n)) ∧ w' = w := by
  go_enter Tryd.func81, Tryd.ntmps81
  go_wp2
  all_goals
    go_ret
    exact ⟨by simp [iswB, *], rfl⟩
def rdv (v : Value) (bad : Bool) : Nat → Value := fun j => if j = 0 then v else .bool bad
def RdAt (c : Nat) (v : Value) (bad : Bool) (w : World) : Prop := RowAt c 2 (rdv v bad) w
theorem RdAt.bytes {c : Nat} {v : Value} {bad : Bool} {w : World} (h : RdAt c v bad w) : w.cell? ⟨c, 0, none⟩ = some v := h.1 0 (by decide)
theorem RdAt.bad {c : Nat} {v : Value} {bad : Bool} {w : World} (h : RdAt c v bad w) : w.cell? ⟨c, 1, none⟩ = some (.bool bad) := h.1 1 (by decide)
theorem RdAt.setBad {c : Nat} {v : Value} {bad : Bool} {w : World} (h : RdAt c v bad w) (b : Bool) : RdAt c v b (w.setCell ⟨c, 1, none⟩ (.bool b)) :=
  (RowAt.set h 1 (.bool b)).congr fun j hj => by
    rcases (by omega : j = 0 ∨ j = 1) with rfl | rfl <;> rfl
theorem RdAt.setBytes {c : Nat} {v : Value} {bad : Bool} {w : World} (h : RdAt c v bad w) (u : Value) : RdAt c u bad (w.setCell ⟨c, 0, none⟩ u) :=
  (RowAt.set h 0 u).congr fun j hj => by
    rcases (by omega : j = 0 ∨ j = 1) with rfl | rfl <;> rfl
theorem has_ok (c : Nat) (oa : Option Addr) (l cp : Nat) (bad : Bool) (n : Nat) (w : World) (h : RdAt c (.slice oa l cp) bad w) (hn : n ≤ l) :
    Calls Tryd.prog 79 #[.pointer (some ⟨c, 0, none⟩), .int .i64 n] w fun e w' => e = .returned (.bool (!bad)) ∧ w' = w := by
  have e0 := h.bytes
  have e1 := h.bad
  have n0 : (0 : Int) ≤ (n : Int) := by omega
  have n1 : ¬ (l : Int) < (n : Int) := by omega
  clear h
  go_enter Tryd.func79, Tryd.ntmps79
  go_wp2
  go_ret
  exact ⟨rfl, rfl⟩
theorem has_no (c : Nat) (oa : Option Addr) (l cp : Nat) (bad : Bool) (n : Int) (w : World) (h : RdAt c (.slice oa l cp) bad w) (hn : n < 0 ∨ (l : Int) < n) :
    Calls Tryd.prog 79 #[.pointer (some ⟨c, 0, none⟩), .int .i64 n] w fun e w' => e = .returned (.bool false) ∧ RdAt c (.slice oa l cp) true w' ∧ But c w w' := by
  have e0 := h.bytes
  have e1 := h.bad
  have g1 := h.2.1 1 (by decide)
  have hs := hideit (h.setBad true)
  clear h
  by_cases n0 : n < 0
  · go_enter Tryd.func79, Tryd.ntmps79
    go_wp2
    go_ret
    exact ⟨rfl, hs.out, but_setCell _ _ _ _⟩
  · have n1 : (l : Int) < n := by omega
    go_enter Tryd.func79, Tryd.ntmps79
    go_wp2
    go_ret
    exact ⟨rfl, hs.out, but_setCell _ _ _ _⟩
end Go.Proofs.YtiakkclabgelfaaDoor
