/-
  The document's Times ahead of its loops: what holds of frame and world, whichever operations are done.
-/
import Derived.Test.YtofecnieicnfgaaPoly
import Derived.Test.YtofecnieicnfgaaRegionInv
namespace Go.Proofs.Ytofecnieicnfgaa
open Go.RowKit
theorem cellOut (X : World) (p o : Nat) (vs : List Value) (i j : Nat) (h : p ≠ i) : (X.setCells p o vs).cell? ⟨i, j, none⟩ = X.cell? ⟨i, j, none⟩ :=
  World.cell?_setCells_out p vs o X ⟨i, j, none⟩ (fun e => absurd e.symm h)
/-- what of the world matters to Times -/
def TimesOk (B : Nat) (w X : World) : Prop := HalfAt (B + 1 + 1) 0#128 X ∧ Below B w X ∧ B + 3 ≤ X.heap.size
theorem TimesOk.carry {B : Nat} {w X u : World} (h : TimesOk B w X) (hb : Below X.heap.size X u) : TimesOk B w u :=
  ⟨h.1.carry hb (by have := h.2.2; omega), h.2.1.trans (hb.mono (by have := h.2.2; omega)), Nat.le_trans h.2.2 hb.size⟩
theorem TimesOk.drew {B : Nat} {w X : World} (h : TimesOk B w X) : TimesOk B w X.drew := h.carry ((Below.refl _ _).drew)
theorem TimesOk.alloc {B : Nat} {w X : World} (h : TimesOk B w X) (o : Obj) : TimesOk B w (X.alloc o) := h.carry ((Below.refl _ _).alloc (Nat.le_refl _) o)
theorem HalfAt.cellsOther {b c : Nat} {x : BitVec 128} {X : World} (h : HalfAt b x X) (hc : c ≠ b) (o : Nat) (vs : List Value) : HalfAt b x (X.setCells c o vs) := by
  obtain ⟨h1, h2, h3, h4⟩ := h
  refine ⟨?_, ?_, ?_, ?_⟩
  · rw [cellOut _ _ _ _ _ _ hc]; exact h1
  · rw [cellOut _ _ _ _ _ _ hc]; exact h2
  · rw [World.frozen?_setCells]; exact h3
  · rw [World.frozen?_setCells]; exact h4
theorem TimesOk.cells {B : Nat} {w X : World} (h : TimesOk B w X) (m : Nat) (hm : B + 3 ≤ m) (vs : List Value) : TimesOk B w (X.setCells m 0 vs) :=
  ⟨h.1.cellsOther (by omega) _ _, below_setCells _ (by omega) _ _ _ h.2.1, by rw [size_setCells]; exact h.2.2⟩
theorem newZ (X : World) : RowAt X.heap.size 128 (bv fun _ => false) (X.alloc (Obj.cells Z128 42)) := RowAt.newOf X 128 _ 42 Z128 (fun j hj => Z128_get j hj _ rfl)
def TimesCut (B : Nat) (w : World) (a b : BitVec 128) (m n : Nat) (wc : World) : Prop :=
  RowAt m 128 (bv (tb a)) wc ∧ RowAt n 128 (bv (tb b)) wc ∧ TimesOk B w wc ∧ B + 3 ≤ m ∧ B + 3 ≤ n ∧ m ≠ n
def halfV (x : BitVec 128) : Value := .agg #[.int .u64 ((lo x).toNat : Int), .int .u64 ((hi x).toNat : Int)]
def rowV (x : BitVec 128) : Value := .agg (row 128 (bv (tb x))).toArray
theorem HalfAt.range {b : Nat} {x : BitVec 128} {X : World} (h : HalfAt b x X) : X.rangeAt b 0 [.int .u64 ((lo x).toNat : Int), .int .u64 ((hi x).toNat : Int)] := fun j v hv => by
  match j, hv with
  | 0, hv => simp at hv; subst hv; exact h.1
  | 1, hv => simp at hv; subst hv; exact h.2.1
  | j + 2, hv => simp at hv
theorem eval_put_same (a : Act) (d : Nat) (v : Value) (h : d < a.tmps.size) : (a.put (some d) v).eval (.tmp d) = v := by
  simp [Act.put, Act.eval, h]
theorem eval_put_ne (a : Act) (d s : Nat) (v : Value) (h : s ≠ d) : (a.put (some d) v).eval (.tmp s) = a.eval (.tmp s) := by
  have : d ≠ s := fun e => h e.symm
  simp [Act.put, Act.eval, this]
theorem size_put (a : Act) (d : Nat) (v : Value) : (a.put (some d) v).tmps.size = a.tmps.size := by simp [Act.put]
/-- whichever operations are done -/
structure TI (B : Nat) (w : World) (x y : BitVec 128) (a0 : Act) (L : Array Bool) (a : Act) (X : World) : Prop where
  size : L.size = 8
  frame : ∀ (s : Nat), s ≠ 5 → s ≠ 6 → s ≠ 13 → s ≠ 14 → s ≠ 15 → s ≠ 16 → a.eval (.tmp s) = a0.eval (.tmp s)
  tsize : a.tmps.size = a0.tmps.size
  defers : a.defers = a0.defers
  hx : HalfAt B x X
  hy : HalfAt (B + 1) y X
  ok : TimesOk B w X
  v0 : L.getD 0 false = true → a.eval (.tmp 13) = halfV x
  v1 : L.getD 1 false = true → a.eval (.tmp 14) = rowV x
  v2 : L.getD 2 false = true → a.eval (.tmp 15) = halfV y
  v3 : L.getD 3 false = true → a.eval (.tmp 16) = rowV y
  rows : ∃ m n, (L.getD 4 false = true → a.eval (.tmp 5) = .pointer (some ⟨m, 0, none⟩) ∧ B + 3 ≤ m ∧ RowAt m 128 (if L.getD 6 false then bv (tb x) else bv fun _ => false) X) ∧
    (L.getD 5 false = true → a.eval (.tmp 6) = .pointer (some ⟨n, 0, none⟩) ∧ B + 3 ≤ n ∧ RowAt n 128 (if L.getD 7 false then bv (tb y) else bv fun _ => false) X) ∧ (L.getD 4 false = true → L.getD 5 false = true → m ≠ n)
  last6 : L.getD 6 false = true → L.getD 4 false = true
  last7 : L.getD 7 false = true → L.getD 5 false = true
theorem getSet (L : Array Bool) (i j : Nat) (hs : L.size = 8) (hi : i < 8) : (L.setIfInBounds i true).getD j false = if j = i then true else L.getD j false := by
  by_cases e : j = i
  · subst e; simp [hs, hi]
  · rw [getD_set_ne false (fun h => e h.symm)]; simp [e]
section
variable {B : Nat} {w : World} {x y : BitVec 128} {a0 : Act} {L : Array Bool} {a : Act} {X : World}
/-- a value of no row comes into its slot: a load's or a call's -/
theorem TI.val (h : TI B w x y a0 L a X) (hz : a0.tmps.size = 95) (i d : Nat) (v : Value) (X' : World) (hb : Below X.heap.size X X')
    (hc : (i = 0 ∧ d = 13 ∧ v = halfV x) ∨ (i = 1 ∧ d = 14 ∧ v = rowV x) ∨ (i = 2 ∧ d = 15 ∧ v = halfV y) ∨ (i = 3 ∧ d = 16 ∧ v = rowV y)) :
    TI B w x y a0 (L.setIfInBounds i true) (a.put (some d) v) X' := by
  have hid : i < 4 ∧ d = i + 13 := by rcases hc with ⟨rfl, rfl, _⟩ | ⟨rfl, rfl, _⟩ | ⟨rfl, rfl, _⟩ | ⟨rfl, rfl, _⟩ <;> decide
  have hi : i < 8 := by omega
  have keep : ∀ j, 4 ≤ j → (L.setIfInBounds i true).getD j false = L.getD j false := fun j hj => by rw [getSet _ _ _ h.size hi, if_neg (by omega)]
  have hts := h.tsize
  obtain ⟨m, n, r1, r2, r3⟩ := h.rows
  have hB := h.ok.2.2
  constructor
  · rw [Array.size_setIfInBounds]; exact h.size
  · intro s h1 h2 h3 h4 h5 h6
    rw [eval_put_ne _ _ _ _ (show s ≠ d by omega)]; exact h.frame s h1 h2 h3 h4 h5 h6
  · rw [size_put]; exact h.tsize
  · exact h.defers
  · exact h.hx.carry hb (by omega)
  · exact h.hy.carry hb (by omega)
  · exact h.ok.carry hb
  · intro hl
    rcases hc with ⟨rfl, rfl, rfl⟩ | ⟨rfl, rfl, rfl⟩ | ⟨rfl, rfl, rfl⟩ | ⟨rfl, rfl, rfl⟩
    · exact eval_put_same _ _ _ (by omega)
    all_goals (rw [getSet _ _ _ h.size hi] at hl; rw [eval_put_ne _ _ _ _ (by omega)]; exact h.v0 (by simpa using hl))
  · intro hl
    rcases hc with ⟨rfl, rfl, rfl⟩ | ⟨rfl, rfl, rfl⟩ | ⟨rfl, rfl, rfl⟩ | ⟨rfl, rfl, rfl⟩
    · rw [getSet _ _ _ h.size hi] at hl; rw [eval_put_ne _ _ _ _ (by omega)]; exact h.v1 (by simpa using hl)
    · exact eval_put_same _ _ _ (by omega)
    all_goals (rw [getSet _ _ _ h.size hi] at hl; rw [eval_put_ne _ _ _ _ (by omega)]; exact h.v1 (by simpa using hl))
  · intro hl
    rcases hc with ⟨rfl, rfl, rfl⟩ | ⟨rfl, rfl, rfl⟩ | ⟨rfl, rfl, rfl⟩ | ⟨rfl, rfl, rfl⟩
    · rw [getSet _ _ _ h.size hi] at hl; rw [eval_put_ne _ _ _ _ (by omega)]; exact h.v2 (by simpa using hl)
    · rw [getSet _ _ _ h.size hi] at hl; rw [eval_put_ne _ _ _ _ (by omega)]; exact h.v2 (by simpa using hl)
    · exact eval_put_same _ _ _ (by omega)
    · rw [getSet _ _ _ h.size hi] at hl; rw [eval_put_ne _ _ _ _ (by omega)]; exact h.v2 (by simpa using hl)
  · intro hl
    rcases hc with ⟨rfl, rfl, rfl⟩ | ⟨rfl, rfl, rfl⟩ | ⟨rfl, rfl, rfl⟩ | ⟨rfl, rfl, rfl⟩
    · rw [getSet _ _ _ h.size hi] at hl; rw [eval_put_ne _ _ _ _ (by omega)]; exact h.v3 (by simpa using hl)
    · rw [getSet _ _ _ h.size hi] at hl; rw [eval_put_ne _ _ _ _ (by omega)]; exact h.v3 (by simpa using hl)
    · rw [getSet _ _ _ h.size hi] at hl; rw [eval_put_ne _ _ _ _ (by omega)]; exact h.v3 (by simpa using hl)
    · exact eval_put_same _ _ _ (by omega)
  · refine ⟨m, n, ?_, ?_, ?_⟩
    · intro hl
      rw [keep 4 (by omega)] at hl
      rw [keep 6 (by omega), eval_put_ne _ _ _ _ (by omega)]
      obtain ⟨q1, q2, q3⟩ := r1 hl
      exact ⟨q1, q2, q3.carry hb⟩
    · intro hl
      rw [keep 5 (by omega)] at hl
      rw [keep 7 (by omega), eval_put_ne _ _ _ _ (by omega)]
      obtain ⟨q1, q2, q3⟩ := r2 hl
      exact ⟨q1, q2, q3.carry hb⟩
    · rw [keep 4 (by omega), keep 5 (by omega)]; exact r3
  · rw [keep 6 (by omega), keep 4 (by omega)]; exact h.last6
  · rw [keep 7 (by omega), keep 5 (by omega)]; exact h.last7
/-- a block is made -/
theorem TI.make (h : TI B w x y a0 L a X) (hz : a0.tmps.size = 95) (i d : Nat) (hc : (i = 4 ∧ d = 5) ∨ (i = 5 ∧ d = 6)) (hl : L.getD i false = false) :
    TI B w x y a0 (L.setIfInBounds i true) (a.put (some d) (.pointer (some ⟨X.heap.size, 0, none⟩))) (X.alloc (Obj.cells Z128 42)) := by
  have hi : i < 8 := by omega
  have hts := h.tsize
  obtain ⟨m, n, r1, r2, r3⟩ := h.rows
  have hB := h.ok.2.2
  have hb : Below X.heap.size X (X.alloc (Obj.cells Z128 42)) := (Below.refl _ _).alloc (Nat.le_refl _) _
  have keep : ∀ j, j ≠ i → (L.setIfInBounds i true).getD j false = L.getD j false := fun j hj => by rw [getSet _ _ _ h.size hi, if_neg hj]
  have hit : (L.setIfInBounds i true).getD i false = true := by rw [getSet _ _ _ h.size hi, if_pos rfl]
  have h6 : i = 4 → L.getD 6 false = false := fun e => by
    subst e
    cases h6 : L.getD 6 false with
    | false => rfl
    | true => rw [h.last6 h6] at hl; cases hl
  have h7 : i = 5 → L.getD 7 false = false := fun e => by
    subst e
    cases h7 : L.getD 7 false with
    | false => rfl
    | true => rw [h.last7 h7] at hl; cases hl
  constructor
  · rw [Array.size_setIfInBounds]; exact h.size
  · intro s h1 h2 h3 h4 h5 h6
    rw [eval_put_ne _ _ _ _ (show s ≠ d by omega)]; exact h.frame s h1 h2 h3 h4 h5 h6
  · rw [size_put]; exact h.tsize
  · exact h.defers
  · exact h.hx.carry hb (by omega)
  · exact h.hy.carry hb (by omega)
  · exact h.ok.carry hb
  · rw [keep 0 (by omega), eval_put_ne _ _ _ _ (by omega)]; exact h.v0
  · rw [keep 1 (by omega), eval_put_ne _ _ _ _ (by omega)]; exact h.v1
  · rw [keep 2 (by omega), eval_put_ne _ _ _ _ (by omega)]; exact h.v2
  · rw [keep 3 (by omega), eval_put_ne _ _ _ _ (by omega)]; exact h.v3
  · rw [keep 6 (by omega), keep 7 (by omega)]
    rcases hc with ⟨rfl, rfl⟩ | ⟨rfl, rfl⟩
    · refine ⟨X.heap.size, n, ?_, ?_, ?_⟩
      · intro _
        refine ⟨eval_put_same _ _ _ (by omega), by omega, ?_⟩
        rw [h6 rfl]; exact newZ X
      · rw [keep 5 (by omega), eval_put_ne _ _ _ _ (by omega)]
        intro h5
        obtain ⟨q1, q2, q3⟩ := r2 h5
        exact ⟨q1, q2, q3.carry hb⟩
      · rw [keep 5 (by omega)]
        intro _ h5
        have := (r2 h5).2.2.2.2
        omega
    · refine ⟨m, X.heap.size, ?_, ?_, ?_⟩
      · rw [keep 4 (by omega), eval_put_ne _ _ _ _ (by omega)]
        intro h4
        obtain ⟨q1, q2, q3⟩ := r1 h4
        exact ⟨q1, q2, q3.carry hb⟩
      · intro _
        refine ⟨eval_put_same _ _ _ (by omega), by omega, ?_⟩
        rw [h7 rfl]; exact newZ X
      · rw [keep 4 (by omega)]
        intro h4 _
        have := (r1 h4).2.2.2.2
        omega
  · rw [keep 6 (by omega)]
    intro h6'
    have h4 := h.last6 h6'
    by_cases e : i = 4
    · subst e; exact hit
    · rw [keep 4 (fun h => e h.symm)]; exact h4
  · rw [keep 7 (by omega)]
    intro h7'
    have h5 := h.last7 h7'
    by_cases e : i = 5
    · subst e; exact hit
    · rw [keep 5 (fun h => e h.symm)]; exact h5
/-- the first row is stored -/
theorem TI.store6 (h : TI B w x y a0 L a X) (h4 : L.getD 4 false = true) (d : Option Nat) (hd : d = none) (m : Nat) (hm : a.eval (.tmp 5) = .pointer (some ⟨m, 0, none⟩)) :
    TI B w x y a0 (L.setIfInBounds 6 true) (a.put d undef) (X.setCells m 0 (row 128 (bv (tb x)))) := by
  subst hd
  have hap : a.put none undef = a := rfl
  rw [hap]
  obtain ⟨m', n, r1, r2, r3⟩ := h.rows
  obtain ⟨q1, q2, q3⟩ := r1 h4
  have hmm : m' = m := by rw [hm] at q1; injection q1 with q1; injection q1 with q1; injection q1 with q1 _ _; exact q1.symm
  subst hmm
  have keep : ∀ j, j ≠ 6 → (L.setIfInBounds 6 true).getD j false = L.getD j false := fun j hj => by rw [getSet _ _ _ h.size (by omega), if_neg hj]
  have hit : (L.setIfInBounds 6 true).getD 6 false = true := by rw [getSet _ _ _ h.size (by omega), if_pos rfl]
  refine ⟨by rw [Array.size_setIfInBounds]; exact h.size, h.frame, h.tsize, h.defers, h.hx.cellsOther (by omega) _ _, h.hy.cellsOther (by omega) _ _, h.ok.cells _ q2 _, ?_, ?_, ?_, ?_, ?_, ?_, ?_⟩
  · rw [keep 0 (by omega)]; exact h.v0
  · rw [keep 1 (by omega)]; exact h.v1
  · rw [keep 2 (by omega)]; exact h.v2
  · rw [keep 3 (by omega)]; exact h.v3
  · rw [keep 4 (by omega), keep 5 (by omega), keep 7 (by omega), hit]
    refine ⟨m', n, fun _ => ⟨hm, q2, q3.cells⟩, fun h5 => ?_, r3⟩
    obtain ⟨s1, s2, s3⟩ := r2 h5
    exact ⟨s1, s2, s3.cellsOther (r3 h4 h5) _ _⟩
  · intro _; rw [keep 4 (by omega)]; exact h4
  · rw [keep 7 (by omega), keep 5 (by omega)]; exact h.last7
/-- the second row is stored -/
theorem TI.store7 (h : TI B w x y a0 L a X) (h5 : L.getD 5 false = true) (d : Option Nat) (hd : d = none) (n : Nat) (hn : a.eval (.tmp 6) = .pointer (some ⟨n, 0, none⟩)) :
    TI B w x y a0 (L.setIfInBounds 7 true) (a.put d undef) (X.setCells n 0 (row 128 (bv (tb y)))) := by
  subst hd
  have hap : a.put none undef = a := rfl
  rw [hap]
  obtain ⟨m, n', r1, r2, r3⟩ := h.rows
  obtain ⟨q1, q2, q3⟩ := r2 h5
  have hmm : n' = n := by rw [hn] at q1; injection q1 with q1; injection q1 with q1; injection q1 with q1 _ _; exact q1.symm
  subst hmm
  have keep : ∀ j, j ≠ 7 → (L.setIfInBounds 7 true).getD j false = L.getD j false := fun j hj => by rw [getSet _ _ _ h.size (by omega), if_neg hj]
  have hit : (L.setIfInBounds 7 true).getD 7 false = true := by rw [getSet _ _ _ h.size (by omega), if_pos rfl]
  refine ⟨by rw [Array.size_setIfInBounds]; exact h.size, h.frame, h.tsize, h.defers, h.hx.cellsOther (by omega) _ _, h.hy.cellsOther (by omega) _ _, h.ok.cells _ q2 _, ?_, ?_, ?_, ?_, ?_, ?_, ?_⟩
  · rw [keep 0 (by omega)]; exact h.v0
  · rw [keep 1 (by omega)]; exact h.v1
  · rw [keep 2 (by omega)]; exact h.v2
  · rw [keep 3 (by omega)]; exact h.v3
  · rw [keep 4 (by omega), keep 5 (by omega), keep 6 (by omega), hit]
    refine ⟨m, n', fun h4 => ?_, fun _ => ⟨hn, q2, q3.cells⟩, r3⟩
    obtain ⟨s1, s2, s3⟩ := r1 h4
    exact ⟨s1, s2, s3.cellsOther (fun e => r3 h4 h5 e.symm) _ _⟩
  · rw [keep 6 (by omega), keep 4 (by omega)]; exact h.last6
  · intro _; rw [keep 5 (by omega)]; exact h5
end
end Go.Proofs.Ytofecnieicnfgaa
