/-
  A disk's Write, wherever.
-/
import Derived.Test.YtfaeieaelfjlpaaDk20
namespace Go.Proofs.Ytfaeieaelfjlpaa
open Go.RowKit Go.BigFrame Go.Maps
section
variable {F : Nat → Prop} {p : Nat} {s : DSt} {C : Nat} {M : DM} {W : World}
def wrX (s : DSt) (x : Int) (f : Nat → BitVec 8) : DSt := if inN s.N x = true then wrS s x.toNat f else s
def zX (N : Nat) (x : Int) : Int := if inN N x = true then 0 else 100
theorem dwriteX (h : DkM F p s C M W) (hp : s.pw ≠ 0) (x : Int) (o : Option Addr) (cap : Nat) (f : Nat → BitVec 8) (hb : BV (.slice o 512 cap) 512 f W) (hC : C ≤ 4398046511104) :
    Calls Try.prog 11 #[.pointer (some ⟨p, 0, none⟩), .int .i64 x, .slice o 512 cap] W fun e w' => e = .returned (.int .i64 (zX s.N x)) ∧ ∃ F' M', DkM F' p (wrX s x f) (C + 1) M' w' ∧ Keeps F W w' ∧ ∀ i, F' i → F i ∨ W.heap.size ≤ i := by
  by_cases hin : inN s.N x = true
  · obtain ⟨n, rfl, hn⟩ := inN_spec hin
    refine (dwrite h n hn hp o cap f hb hC).mono ?_
    rintro e w' ⟨rfl, F', M', h1, h2, h3⟩
    refine ⟨by unfold zX; rw [if_pos hin], F', M', ?_, h2, h3⟩
    unfold wrX
    rw [if_pos hin, Int.toNat_natCast]
    exact h1
  · have hc : cbE s.N x 512 = 100 := by unfold cbE; rw [if_neg hin]
    refine (dwrite_bad h x o 512 cap (by rw [hc]; decide)).mono ?_
    rintro e w' ⟨rfl, rfl⟩
    refine ⟨by unfold zX; rw [if_neg hin, hc], F, M, ?_, Keeps.refl _ _, fun i hi => .inl hi⟩
    unfold wrX
    rw [if_neg hin]
    exact h.mono (Nat.le_succ _)
end
end Go.Proofs.Ytfaeieaelfjlpaa
