/-
  Readers: bytes cloned, widths, what a Reader has and passes over; for every Reader in every world. Readers: bytes that are passed over and told, for every Reader in every world.
-/
import Derived.Test.YtgjabfjkokpkiaaDoorQ1
import Derived.Test.YtgjabfjkokpkiaaDoorQ18
import Derived.Lib.BufferMore
namespace Go.Proofs.YtgjabfjkokpkiaaDoor
set_option maxRecDepth 20000
open Go.RowKit Go.BigFrame
theorem grownE {w X Y : World} {e : TypeId} {v : Value} {n base : Nat} {g : Nat → Value} (hE : Ext w X) (hO : OwnB base e v n g X) (hb : w.heap.size ≤ base) (hg : X.grownBy Y v.ownBlock) : Ext w Y :=
  Below.trans hE (below_grown (Below.size hE) hg fun k hk => Nat.le_trans hb (hO.lt k hk).1)
set_option maxRecDepth 20000 in
theorem clone_any (v : Value) (l : Nat) (b : Nat → BitVec 8) (w : World) (h : BV v l b w) (hl : l ≤ 140737488355328) :
    Calls Tryd.prog 17 #[v] w fun e w' => ∃ v', e = .returned v' ∧ OwnB w.heap.size 5 v' l (yv b) w' ∧ Ext w w' := by
  rcases h with ⟨rfl, rfl⟩ | ⟨a, cap, rfl, h2, h3⟩
  · have hq := fun X : World => Go.Lib.run_eql_slice_nil_nil (P := Tryd.prog) X 0 0 Tryd.underlying22
    go_enter Tryd.func17, Tryd.ntmps17
    go_wp2
    go_ret
    exact ⟨_, rfl, own_nil _ _ _ _, Ext.refl _⟩
  · have hE : Ext w (w.alloc (.cells #[] 5)) := (Below.refl _ _).alloc (Nat.le_refl _) _
    have hO := own_empty w w.heap.size 5 (yv b) (Nat.le_refl _)
    have hB : BV (.slice (some a) l cap) l b (w.alloc (.cells #[] 5)) := .inr ⟨a, cap, rfl, h2, h3.carry hE⟩
    replace hE := hideit hE
    replace hO := hideit hO
    replace hB := hideit hB
    clear h3
    have hq := fun X : World => Go.Lib.run_eql_slice_some_nil (P := Tryd.prog) X a l cap Tryd.underlying22
    go_enter Tryd.func17, Tryd.ntmps17
    go_upto_region 3 with (fail)
    refine wp_region_lit ?_
    refine wpList_to rfl (.slice (some ⟨w.heap.size, 0, none⟩) 0 0) (w.alloc (.cells #[] 5)) (by simp [go_sem]) ?_
    simp only [zp0, zp1, zp2, zp3]
    refine wpList_run rfl (.slice (some a) l cap) (by simp [go_sem]) ?_
    simp only [zp0, zp1, zp2, zp3]
    refine wpList_growV (n := 0) (base := w.heap.size) elem22 rfl (.tmp 5) (.tmp 6) rfl rfl hO.out (.slice (some a) l cap) l b (yv b) rfl hB.out (fun _ _ => rfl) (fun j hj => by rw [Nat.zero_add]) (by omega) (Below.size hE.out) ?_
    intro v1 w1 hO1 hg1
    rw [Nat.zero_add] at hO1
    have hE1 := hideit (grownE hE.out hO.out (Nat.le_refl _) hg1)
    replace hO1 := hideit hO1
    obtain ⟨o1, c1, rfl⟩ := hO1.out.bv.form
    simp only [zp0, zp1, zp2, zp3]
    clear hE hO hg1 hB
    go_wp2
    go_ret
    exact ⟨_, rfl, hO1.out, hE1.out⟩
def iswB (n : Int) : Bool := n == 1 || n == 2 || n == 4 || n == 8
theorem isw_any (n : Int) (w : World) : Calls Tryd.prog 65 #[.int .i64 n] w fun e w' => e = .returned (.bool (iswB n)) ∧ w' = w := by
  go_enter Tryd.func65, Tryd.ntmps65
  go_wp2
  all_goals
    go_ret
    exact ⟨by simp [iswB, *], rfl⟩
def rdv (v : Value) (bad : Bool) : Nat → Value := fun j => if j = 0 then v else .bool bad
def RdAt (c : Nat) (v : Value) (bad : Bool) (w : World) : Prop := RowAt c 2 (rdv v bad) w
theorem RdAt.bytes {c : Nat} {v : Value} {bad : Bool} {w : World} (h : RdAt c v bad w) : w.cell? ⟨c, 0, none⟩ = some v := h.1 0 (by decide)
theorem RdAt.bad {c : Nat} {v : Value} {bad : Bool} {w : World} (h : RdAt c v bad w) : w.cell? ⟨c, 1, none⟩ = some (.bool bad) := h.1 1 (by decide)
theorem RdAt.setBad {c : Nat} {v : Value} {bad : Bool} {w : World} (h : RdAt c v bad w) (b : Bool) : RdAt c v b (w.setCell ⟨c, 1, none⟩ (.bool b)) :=
  (RowAt.set h 1 (.bool b)).congr fun j hj => by
    rcases (by omega : j = 0 ∨ j = 1) with rfl | rfl <;> rfl
theorem RdAt.setBytes {c : Nat} {v : Value} {bad : Bool} {w : World} (h : RdAt c v bad w) (u : Value) : RdAt c u bad (w.setCell ⟨c, 0, none⟩ u) :=
  (RowAt.set h 0 u).congr fun j hj => by
    rcases (by omega : j = 0 ∨ j = 1) with rfl | rfl <;> rfl
theorem has_ok (c : Nat) (oa : Option Addr) (l cp : Nat) (bad : Bool) (n : Nat) (w : World) (h : RdAt c (.slice oa l cp) bad w) (hn : n ≤ l) :
    Calls Tryd.prog 66 #[.pointer (some ⟨c, 0, none⟩), .int .i64 n] w fun e w' => e = .returned (.bool (!bad)) ∧ w' = w := by
  have e0 := h.bytes
  have e1 := h.bad
  have n0 : (0 : Int) ≤ (n : Int) := by omega
  have n1 : ¬ (l : Int) < (n : Int) := by omega
  clear h
  go_enter Tryd.func66, Tryd.ntmps66
  go_wp2
  go_ret
  exact ⟨rfl, rfl⟩
theorem has_no (c : Nat) (oa : Option Addr) (l cp : Nat) (bad : Bool) (n : Int) (w : World) (h : RdAt c (.slice oa l cp) bad w) (hn : n < 0 ∨ (l : Int) < n) :
    Calls Tryd.prog 66 #[.pointer (some ⟨c, 0, none⟩), .int .i64 n] w fun e w' => e = .returned (.bool false) ∧ RdAt c (.slice oa l cp) true w' ∧ But c w w' := by
  have e0 := h.bytes
  have e1 := h.bad
  have g1 := h.2.1 1 (by decide)
  have hs := hideit (h.setBad true)
  clear h
  by_cases n0 : n < 0
  · go_enter Tryd.func66, Tryd.ntmps66
    go_wp2
    go_ret
    exact ⟨rfl, hs.out, but_setCell _ _ _ _⟩
  · have n1 : (l : Int) < n := by omega
    go_enter Tryd.func66, Tryd.ntmps66
    go_wp2
    go_ret
    exact ⟨rfl, hs.out, but_setCell _ _ _ _⟩
end Go.Proofs.YtgjabfjkokpkiaaDoor
namespace Go.Proofs.YtgjabfjkokpkiaaDoor
set_option maxRecDepth 20000
open Go.RowKit Go.BigFrame
theorem OwnB.weaken {base base' n : Nat} {e : TypeId} {v : Value} {g : Nat → Value} {w : World} (h : OwnB base e v n g w) (hb : base' ≤ base) : OwnB base' e v n g w :=
  ⟨h.1, h.2.imp id (fun ⟨g, cap, cur, a, b, c⟩ => ⟨g, cap, cur, a, Nat.le_trans hb b, c⟩)⟩
theorem OwnB.off {base n c : Nat} {e : TypeId} {v : Value} {g : Nat → Value} {w : World} (h : OwnB base e v n g w) (hc : c < base) : ∀ a m cp, v = .slice (some a) m cp → a.block ≠ c := fun a m cp hh => by
  have := (h.lt a.block (by rw [hh]; rfl)).1
  omega
def OffB (v : Value) (c : Nat) : Prop := ∀ a n cp, v = .slice (some a) n cp → a.block ≠ c
def InB (v : Value) (lo hi : Nat) : Prop := ∀ a n cp, v = .slice (some a) n cp → lo ≤ a.block ∧ a.block < hi
theorem InB.off {v : Value} {lo hi : Nat} (h : InB v lo hi) : OffB v hi := fun a n cp hh => Nat.ne_of_lt (h a n cp hh).2
def Rd (lo c l : Nat) (f : Nat → BitVec 8) (bad : Bool) (w : World) : Prop := ∃ v, RdAt c v bad w ∧ BV v l f w ∧ InB v lo c
theorem BV.but {v : Value} {l c : Nat} {b : Nat → BitVec 8} {w X : World} (h : BV v l b w) (k : But c w X) (ho : OffB v c) : BV v l b X := by
  rcases h with h | ⟨a, cap, h1, h2, h3⟩
  · exact .inl h
  · exact .inr ⟨a, cap, h1, h2, h3.but k (ho _ _ _ h1)⟩
theorem Rd.ext {lo c l : Nat} {f : Nat → BitVec 8} {bad : Bool} {w X : World} (h : Rd lo c l f bad w) (k : Ext w X) : Rd lo c l f bad X := by
  obtain ⟨v, h1, h2, h3⟩ := h
  exact ⟨v, RowAt.carry h1 k, h2.ext k, h3⟩
theorem Rd.but {lo c d l : Nat} {f : Nat → BitVec 8} {bad : Bool} {w X : World} (h : Rd lo c l f bad w) (k : But d w X) (hd : d < lo ∨ c < d) (hlo : lo ≤ c) : Rd lo c l f bad X := by
  obtain ⟨v, h1, h2, h3⟩ := h
  exact ⟨v, RowAt.but h1 k (by omega), h2.but k (fun a n cp hh => by have := h3 a n cp hh; omega), h3⟩
theorem Rd.lt {lo c l : Nat} {f : Nat → BitVec 8} {bad : Bool} {w : World} (h : Rd lo c l f bad w) : c < w.heap.size := by
  obtain ⟨v, h1, _⟩ := h
  exact h1.2.2
theorem RowAt.belowB {b n B : Nat} {g : Nat → Value} {w X : World} (h : RowAt b n g w) (hb : b < B) (k : Below B w X) : RowAt b n g X :=
  ⟨fun j hj => (k.cell (p := ⟨b, j, none⟩) hb).trans (h.1 j hj), fun j hj => (k.frozen (p := ⟨b, j, none⟩) hb).trans (h.2.1 j hj), Nat.lt_of_lt_of_le h.2.2 k.size⟩
theorem Rd.below {lo c B l : Nat} {f : Nat → BitVec 8} {bad : Bool} {w X : World} (h : Rd lo c l f bad w) (hc : c < B) (k : Below B w X) : Rd lo c l f bad X := by
  obtain ⟨v, h1, h2, h3⟩ := h
  refine ⟨v, RowAt.belowB h1 hc k, ?_, h3⟩
  rcases h2 with h2 | ⟨a, cap, q1, q2, q3⟩
  · exact .inl h2
  · exact .inr ⟨a, cap, q1, q2, q3.below (by have := (h3 _ _ _ q1).2; omega) k⟩
def shF (f : Nat → BitVec 8) (n : Nat) (j : Nat) : BitVec 8 := f (n + j)
set_option maxRecDepth 20000 in
theorem pass_any (lo c l n : Nat) (f : Nat → BitVec 8) (bad : Bool) (w : World) (h : Rd lo c l f bad w) (hn : n ≤ l) :
    Calls Tryd.prog 67 #[.pointer (some ⟨c, 0, none⟩), .int .i64 n] w fun e w' => ∃ v, e = .returned v ∧ BV v n f w' ∧ OffB v c ∧ Rd lo c (l - n) (shF f n) bad w' ∧ But c w w' := by
  obtain ⟨v, h1, h2, h3⟩ := h
  rcases h2 with ⟨rfl, rfl⟩ | ⟨a, cap, rfl, h4, h5⟩
  · obtain rfl : n = 0 := by omega
    have e0 := h1.bytes
    have g0 := h1.2.1 0 (by decide)
    have hs := hideit (h1.setBytes (.slice none 0 0))
    clear h1 h3
    go_enter Tryd.func67, Tryd.ntmps67
    go_wp2
    go_ret
    exact ⟨_, rfl, .inl ⟨rfl, rfl⟩, (fun a n cp hh => by cases hh), ⟨_, hs.out, .inl ⟨rfl, rfl⟩, (fun a n cp hh => by cases hh)⟩, but_setCell _ _ _ _⟩
  · by_cases hct : cap = n
    · have e0 := h1.bytes
      have g0 := h1.2.1 0 (by decide)
      have n0 : (0 : Int) ≤ (n : Int) := by omega
      have n1 : (n : Int) ≤ (l : Int) := by omega
      have n2 : (n : Int) ≤ (cap : Int) := by omega
      have hs := hideit (h1.setBytes (.slice (some a) (l - n) 0))
      have hi := h3 _ _ _ rfl
      have hc : a.block ≠ c := Nat.ne_of_lt hi.2
      have hb := hideit (but_setCell w c 0 (.slice (some a) (l - n) 0))
      have h6 := hideit (h5.but hb.out hc)
      have H4 := hideit h4
      clear h1 h3 h5 h4
      go_enter Tryd.func67, Tryd.ntmps67
      go_wp2
      go_ret
      refine ⟨_, rfl, .inr ⟨a, _, rfl, by omega, ⟨fun j hj => h6.out.1 j (by omega), h6.out.2⟩⟩, (fun x y z hh => by injection hh with hh; injection hh with hh; rw [← hh]; exact hc), ⟨_, hs.out, .inr ⟨a, 0, rfl, by have := H4.out; omega, ⟨fun j hj => by have := H4.out; omega, h6.out.2⟩⟩, (fun x y z hh => by injection hh with hh; injection hh with hh; rw [← hh]; exact hi)⟩, hb.out⟩
    · have e0 := h1.bytes
      have g0 := h1.2.1 0 (by decide)
      have n0 : (0 : Int) ≤ (n : Int) := by omega
      have n1 : (n : Int) ≤ (l : Int) := by omega
      have n2 : (n : Int) ≤ (cap : Int) := by omega
      have hs := hideit (h1.setBytes (.slice (some (a.add n)) (l - n) (cap - n)))
      have hi := h3 _ _ _ rfl
      have hc : a.block ≠ c := Nat.ne_of_lt hi.2
      have hb := hideit (but_setCell w c 0 (.slice (some (a.add n)) (l - n) (cap - n)))
      have h6 := hideit (h5.but hb.out hc)
      have H4 := hideit h4
      clear h1 h3 h5 h4
      go_enter Tryd.func67, Tryd.ntmps67
      go_wp2
      go_ret
      refine ⟨_, rfl, .inr ⟨a, _, rfl, by omega, ⟨fun j hj => h6.out.1 j (by omega), h6.out.2⟩⟩, (fun x y z hh => by injection hh with hh; injection hh with hh; rw [← hh]; exact hc), ⟨_, hs.out, .inr ⟨a.add n, cap - n, rfl, by have := H4.out; omega, ⟨fun j hj => by rw [add_add]; exact h6.out.1 (n + j) (by omega), by rw [add_block]; exact h6.out.2⟩⟩, (fun x y z hh => by injection hh with hh; injection hh with hh; rw [← hh, add_block]; exact hi)⟩, hb.out⟩
end Go.Proofs.YtgjabfjkokpkiaaDoor
