/-
  A disk's Write, wherever. Eight lists of strings, one for each block: what is told of what was written.
-/
import Derived.Test.YtfaeieaelfjlpaaQ21
namespace Go.Proofs.Ytfaeieaelfjlpaa
open Go.RowKit Go.BigFrame Go.Maps
section
variable {F : Nat → Prop} {p : Nat} {s : DSt} {C : Nat} {M : DM} {W : World}
def wrX (s : DSt) (x : Int) (f : Nat → BitVec 8) : DSt := if inN s.N x = true then wrS s x.toNat f else s
def zX (N : Nat) (x : Int) : Int := if inN N x = true then 0 else 100
theorem dwriteX (h : DkM F p s C M W) (hp : s.pw ≠ 0) (x : Int) (o : Option Addr) (cap : Nat) (f : Nat → BitVec 8) (hb : BV (.slice o 512 cap) 512 f W) (hC : C ≤ 4398046511104) :
    Calls Try.prog 11 #[.pointer (some ⟨p, 0, none⟩), .int .i64 x, .slice o 512 cap] W fun e w' => e = .returned (.int .i64 (zX s.N x)) ∧ ∃ F' M', DkM F' p (wrX s x f) (C + 1) M' w' ∧ Keeps F W w' ∧ ∀ i, F' i → F i ∨ W.heap.size ≤ i := by
  by_cases hin : inN s.N x = true
  · obtain ⟨n, rfl, hn⟩ := inN_spec hin
    refine (dwrite h n hn hp o cap f hb hC).mono ?_
    rintro e w' ⟨rfl, F', M', h1, h2, h3⟩
    refine ⟨by unfold zX; rw [if_pos hin], F', M', ?_, h2, h3⟩
    unfold wrX
    rw [if_pos hin, Int.toNat_natCast]
    exact h1
  · have hc : cbE s.N x 512 = 100 := by unfold cbE; rw [if_neg hin]
    refine (dwrite_bad h x o 512 cap (by rw [hc]; decide)).mono ?_
    rintro e w' ⟨rfl, rfl⟩
    refine ⟨by unfold zX; rw [if_neg hin, hc], F, M, ?_, Keeps.refl _ _, fun i hi => .inl hi⟩
    unfold wrX
    rw [if_neg hin]
    exact h.mono (Nat.le_succ _)
end
end Go.Proofs.Ytfaeieaelfjlpaa
namespace Go.Proofs.Ytfaeieaelfjlpaa
open Go.RowKit Go.BigFrame Go.Maps
/-- the text of a block -/
def txt (f : Nat → BitVec 8) : Value := .string (bstr 512 fun t => ((f t).toNat : Int))
/-- what block n was told to have, the j-th time -/
def tsF (s : DSt) (n j : Nat) : Nat → BitVec 8 := if j = 0 then fun _ => 0#8 else s.uc n (j - 1)
def tsV (s : DSt) (n j : Nat) : Value := txt (tsF s n j)
theorem elem42 : ElemB Try.prog 42 9 16 := elem_b Try.underlying42 (by kernel_rfl) (by kernel_rfl) (by kernel_rfl)
theorem own9_notB {base : Nat} {v : Value} {n : Nat} {g : Nat → Value} {W : World} {b : Nat} (h : OwnB base 9 v n g W) (hb : v.ownBlock = some b) : ¬ IsB b W := fun ⟨cur, fz, h1⟩ => by
  obtain ⟨_, ⟨rfl, _⟩ | ⟨g', cap, cur', rfl, _, h2, _⟩⟩ := h
  · cases hb
  · injection hb with hb
    subst hb
    have h2' : W.heap[g']? = some (.cells cur' 9 (0, 0)) := h2
    rw [h1] at h2'
    injection h2' with h2'
    injection h2' with _ h3
    exact absurd h3 (by decide)
structure TdW (F : Nat → Prop) (tb base : Nat) (tv : Nat → Value) (cnt : Nat → Nat) (ts : Nat → Nat → Value) (k : Nat) (X : World) : Prop where
  row : RowAt tb 8 (fun n => if n < k then tv n else .slice none 0 0) X
  own : ∀ n, n < k → OwnB base 9 (tv n) (cnt n) (ts n) X
  ap : ∀ n b, n < k → (tv n).ownBlock = some b → b ≠ tb ∧ ¬ F b
  ll : ∀ n n' b, n < k → n' < k → n ≠ n' → (tv n).ownBlock = some b → (tv n').ownBlock ≠ some b
  tbF : ¬ F tb
  tbb : base ≤ tb
  notB : ¬ IsB tb X
section
variable {F F' : Nat → Prop} {tb base k : Nat} {tv : Nat → Value} {cnt : Nat → Nat} {ts : Nat → Nat → Value} {X Y : World}
theorem TdW.keep (h : TdW F tb base tv cnt ts k X) (hk : Keeps F X Y) : TdW F tb base tv cnt ts k Y where
  row := h.row.keep hk h.tbF
  own := fun n hn => (h.own n hn).keep hk fun b hb => (h.ap n b hn hb).2
  ap := h.ap
  ll := h.ll
  tbF := h.tbF
  tbb := h.tbb
  notB := fun hb => h.notB (hb.back hk h.row.2.2 h.tbF)
theorem TdW.ext (h : TdW F tb base tv cnt ts k X) (hk : Ext X Y) : TdW F tb base tv cnt ts k Y := h.keep (Keeps.of_ext hk)
theorem TdW.reF (h : TdW F tb base tv cnt ts k X) (hF : ∀ i, F' i → F i ∨ X.heap.size ≤ i) : TdW F' tb base tv cnt ts k X := { h with
  ap := fun n b hn hb => ⟨(h.ap n b hn hb).1, fun e => by
    rcases hF b e with e | e
    · exact (h.ap n b hn hb).2 e
    · have := ((h.own n hn).lt b hb).2
      omega⟩
  tbF := fun e => by
    rcases hF tb e with e | e
    · exact h.tbF e
    · have := h.row.2.2
      omega }
/-- another list of one text -/
theorem TdW.put (h : TdW F tb base tv cnt ts k X) (hk : k < 8) (u : Value) (hb : base ≤ X.heap.size) (hF : ∀ i, F i → i < X.heap.size) :
    TdW F tb base (upN tv k (.slice (some ⟨X.heap.size, 0, none⟩) 1 1)) (upN cnt k 1) (upN ts k fun _ => u) (k + 1) ((X.alloc (.cells #[u] 9)).setCell ⟨tb, k, none⟩ (.slice (some ⟨X.heap.size, 0, none⟩) 1 1)) := by
  have hE : Ext X (X.alloc (.cells #[u] 9)) := (Below.refl _ _).alloc (Nat.le_refl _) _
  have h1 := h.ext hE
  have htl := h.row.2.2
  have hO : OwnB base 9 (.slice (some ⟨X.heap.size, 0, none⟩) 1 1) 1 (fun _ => u) (X.alloc (.cells #[u] 9)) := ⟨by rw [row_length, Nat.mul_one], .inr ⟨X.heap.size, 1, #[u], rfl, hb, alloc_at _ _, Nat.le_refl _, by unfold maxLen; decide, rfl, rfl⟩⟩
  have kb := but_setCell (X.alloc (.cells #[u] 9)) tb k (.slice (some ⟨X.heap.size, 0, none⟩) 1 1)
  refine ⟨(h1.row.set k _).congr fun j hj => ?_, fun n hn => ?_, fun n b hn hb' => ?_, fun n n' b hn hn' hne hb1 hb2 => ?_, h.tbF, h.tbb, fun e => h1.notB e.unset⟩
  · by_cases e : j = k
    · subst e
      rw [if_pos rfl, if_pos (by omega), upN_same]
    · rw [if_neg e]
      by_cases e2 : j < k
      · rw [if_pos e2, if_pos (by omega), upN_other _ e]
      · rw [if_neg e2, if_neg (by omega)]
  · by_cases e : n = k
    · subst e
      rw [upN_same, upN_same, upN_same]
      exact hO.kept kb (.inr fun e => by
        have e' : X.heap.size = tb := Option.some.inj e
        omega)
    · rw [upN_other _ e, upN_other _ e, upN_other _ e]
      refine (h1.own n (by omega)).kept kb ?_
      cases hv : (tv n).ownBlock with
      | none => exact .inl rfl
      | some b => exact .inr fun e2 => by injection e2 with e2; exact (h.ap n b (by omega) hv).1 e2
  · by_cases e : n = k
    · subst e
      rw [upN_same] at hb'
      have hb2 : X.heap.size = b := Option.some.inj hb'
      exact ⟨by omega, fun e => by have := hF _ e; omega⟩
    · rw [upN_other _ e] at hb'
      exact h.ap n b (by omega) hb'
  · by_cases e1 : n = k
    · subst e1
      rw [upN_same] at hb1
      have hb3 : X.heap.size = b := Option.some.inj hb1
      rw [upN_other _ (Ne.symm hne)] at hb2
      have := ((h.own n' (by omega)).lt _ hb2).2
      omega
    · rw [upN_other _ e1] at hb1
      by_cases e2 : n' = k
      · subst e2
        rw [upN_same] at hb2
        have hb3 : X.heap.size = b := Option.some.inj hb2
        have := ((h.own n (by omega)).lt _ hb1).2
        omega
      · rw [upN_other _ e2] at hb2
        exact h.ll n n' b (by omega) (by omega) hne hb1 hb2
/-- one list grown by a text -/
theorem TdW.grow {Z : World} {n : Nat} {v u : Value} (h : TdW F tb base tv cnt ts 8 X) (hn : n < 8) (hg : X.grownBy Y (tv n).ownBlock) (hO : OwnB base 9 v (cnt n + 1) (fun j => if j = cnt n then u else ts n j) Y) (hloc : v.ownBlock = (tv n).ownBlock ∨ v.ownBlock = some X.heap.size) (hF : ∀ i, F i → i < X.heap.size) (hZ : Z = Y.setCell ⟨tb, n, none⟩ v) :
    TdW F tb base (upN tv n v) (upN cnt n (cnt n + 1)) (upN ts n fun j => if j = cnt n then u else ts n j) 8 Z := by
  subst hZ
  have htl := h.row.2.2
  have hrow : RowAt tb 8 (fun n => if n < 8 then tv n else .slice none 0 0) Y := h.row.grown hg fun e => (h.ap n tb hn e.symm).1 rfl
  have kb := but_setCell Y tb n v
  have hvb : ∀ b, v.ownBlock = some b → b ≠ tb ∧ ¬ F b := fun b hb => by
    rcases hloc with e | e
    · exact h.ap n b hn (e ▸ hb)
    · rw [e] at hb
      injection hb with hb
      subst hb
      exact ⟨by omega, fun e => by have := hF _ e; omega⟩
  have hoth : ∀ n' b, n' < 8 → n' ≠ n → (tv n').ownBlock = some b → v.ownBlock ≠ some b := fun n' b hn' hne hb hv => by
    rcases hloc with e | e
    · exact h.ll n' n b hn' hn hne hb (e ▸ hv)
    · rw [e] at hv
      injection hv with hv
      subst hv
      have := ((h.own n' hn').lt _ hb).2
      omega
  refine ⟨(hrow.set n v).congr fun j hj => ?_, fun n' hn' => ?_, fun n' b hn' hb' => ?_, fun n1 n2 b hn1 hn2 hne hb1 hb2 => ?_, h.tbF, h.tbb, fun e => h.notB ?_⟩
  · by_cases e : j = n
    · subst e
      rw [if_pos rfl, if_pos hj, upN_same]
    · rw [if_neg e, if_pos hj, if_pos hj, upN_other _ e]
  · by_cases e : n' = n
    · subst e
      rw [upN_same, upN_same, upN_same]
      refine hO.kept kb ?_
      cases hv : v.ownBlock with
      | none => exact .inl rfl
      | some b => exact .inr fun e2 => by injection e2 with e2; exact (hvb b hv).1 e2
    · rw [upN_other _ e, upN_other _ e, upN_other _ e]
      have a1 := (h.own n' hn').kept hg (by
        cases hv : (tv n').ownBlock with
        | none => exact .inl rfl
        | some b => exact .inr fun e2 => h.ll n' n b hn' hn e hv e2.symm)
      refine a1.kept kb ?_
      cases hv : (tv n').ownBlock with
      | none => exact .inl rfl
      | some b => exact .inr fun e2 => by injection e2 with e2; exact (h.ap n' b hn' hv).1 e2
  · by_cases e : n' = n
    · subst e
      rw [upN_same] at hb'
      exact hvb b hb'
    · rw [upN_other _ e] at hb'
      exact h.ap n' b hn' hb'
  · by_cases e1 : n1 = n
    · subst e1
      rw [upN_same] at hb1
      rw [upN_other _ (Ne.symm hne)] at hb2
      exact hoth n2 b hn2 (Ne.symm hne) hb2 hb1
    · rw [upN_other _ e1] at hb1
      by_cases e2 : n2 = n
      · subst e2
        rw [upN_same] at hb2
        exact hoth n1 b hn1 e1 hb1 hb2
      · rw [upN_other _ e2] at hb2
        exact h.ll n1 n2 b hn1 hn2 hne hb1 hb2
  · have e2 := e.unset
    obtain ⟨cur, fz, hb⟩ := e2
    exact ⟨cur, fz, (hg.block tb htl fun e => (h.ap n tb hn e.symm).1 rfl).symm.trans hb⟩
theorem TdW.congr {cnt' : Nat → Nat} {ts' : Nat → Nat → Value} (h : TdW F tb base tv cnt ts k X) (h1 : ∀ n, n < k → cnt n = cnt' n) (h2 : ∀ n j, n < k → j < cnt n → ts n j = ts' n j) : TdW F tb base tv cnt' ts' k X := { h with
  own := fun n hn => by
    rw [← h1 n hn]
    exact (h.own n hn).congr fun j hj => h2 n j hn hj }
end
end Go.Proofs.Ytfaeieaelfjlpaa
