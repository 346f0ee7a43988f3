/-
  How a tweak that came in reads: every one is some element's two words.
-/
import Derived.Test.YtofecnieicnfgaaTimes
import Derived.ProofKit
import Derived.OpenShut
import Derived.Lib.SmallJoins
namespace Go.Proofs.Ytofecnieicnfgaa
open Go.ChangeShapes Go.WideShapes Go.ChangeAt Go.RowKit
theorem half_of {l h : Int} (wl : (Lit.int .u64 l).wf = true) (wh : (Lit.int .u64 h).wf = true) : ∃ a : BitVec 128, l = ((lo a).toNat : Int) ∧ h = ((hi a).toNat : Int) := by
  have bl := bounds_u64 wl
  have bh := bounds_u64 wh
  refine ⟨jn (BitVec.ofNat 64 l.toNat) (BitVec.ofNat 64 h.toNat), ?_, ?_⟩
  · rw [lo_jn, BitVec.toNat_ofNat]; omega
  · rw [hi_jn, BitVec.toNat_ofNat]; omega
theorem open_half {H : Type} {enc : TypeId × Value → H} {W : World} {r : Reach} {b0 base : Nat} {spare : Nat → Bool} {held : Bool} {v : Value} {d : DataW H} {p : List MemPlace}
    (hv : Value.okWide Try.prog W r b0 28 v) (h : DataW.Trod enc Try.prog W base spare held 28 v d p) : ∃ a : BitVec 128, v = .agg #[.int .u64 ((lo a).toNat : Int), .int .u64 ((hi a).toNat : Int)] := by
  obtain ⟨c0, c1, y0, y1, m, rfl, rfl, rfl, hy0, hy1⟩ := Joins.open_agg2 Try.underlying28 (by kernel_rfl) (by kernel_rfl) hv h
  obtain ⟨n0, e0, _, w0⟩ := DataW.trod_int Try.underlying26 hy0
  obtain ⟨n1, e1, _, w1⟩ := DataW.trod_int Try.underlying26 hy1
  simp at e0 e1
  subst e0 e1
  obtain ⟨a, rfl, rfl⟩ := half_of w0 w1
  exact ⟨a, rfl⟩
end Go.Proofs.Ytofecnieicnfgaa
