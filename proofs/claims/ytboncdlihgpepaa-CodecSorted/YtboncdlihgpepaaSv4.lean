/-
  Acts that came in.
-/
import Derived.Test.YtboncdlihgpepaaSv2
import Derived.Test.YtboncdlihgpepaaOpen
import Derived.Deep.Slices
import Derived.Deep.Strs
namespace Go.Proofs.Ytboncdlihgpepaa
open Go.RowKit Go.BigFrame Go.Maps Go.ChangeMaps Go.MapKept
set_option linter.unusedVariables false
open Go.ChangeShapes Go.WideShapes Go.ChangeAt
/-- three cells, one behind the other -/
def actv (k m : Int) (t : ByteArray) : Nat → Value := fun j => if j = 0 then .int .i64 k else if j = 1 then .int .i64 m else .string t
/-- Acts that came in -/
def AArg (v : Value) (W : World) : Prop := ∃ (ov : Option Addr) (n cap : Nat), v = .slice ov n cap ∧ n ≤ 4398046511104 ∧ ∀ i, i < n → ∃ (ab ao : Nat) (k m : Int) (t : ByteArray), ov = some ⟨ab, ao, none⟩ ∧ okI m ∧ ∀ j, j < 3 → W.cell? ⟨ab, ao + i * 3 + j, none⟩ = some (actv k m t j)
set_option maxRecDepth 100000 in
theorem bytes68 : Try.prog.bytesOf 68 = 32 := by kernel_rfl
set_option maxRecDepth 100000 in
theorem open_act {H : Type} {enc : TypeId × Value → H} {W : World} {base : Nat} {spare : Nat → Bool} {held : Bool} {n : Nat} {cs : List Value} {x : DataW H × List MemPlace} (h : DataW.trod enc Try.prog W base spare held n 68 cs = some x) :
    ∃ (k m : Int) (t : ByteArray), cs = [.int .i64 k, .int .i64 m, .string t] ∧ okI m := by
  have hC : Try.prog.cellsOf 68 = 3 := by kernel_rfl
  have c3 : Try.prog.cellsOf 3 = 1 := by kernel_rfl
  have c9 : Try.prog.cellsOf 9 = 1 := by kernel_rfl
  obtain ⟨y0, y1, y2, n', _, hl, h0, h1, h2⟩ := Go.Deep.trod_struct3 Try.underlying68 h
  rw [hC] at hl
  match cs, hl with
  | [v0, v1, v2], _ =>
    simp only [c3, c9, List.drop_succ_cons, List.drop_zero, List.take_succ_cons, List.take_zero] at h0 h1 h2
    obtain ⟨k, e0, _, _⟩ := DataW.trod_int Try.underlying3 h0
    obtain ⟨m, e1, _, w1⟩ := DataW.trod_int Try.underlying3 h1
    obtain ⟨t, e2, _⟩ := DataW.trod_string Try.underlying9 h2
    simp only [List.cons.injEq, and_true] at e0 e1 e2
    subst e0 e1 e2
    exact ⟨k, m, t, rfl, w1⟩
set_option maxRecDepth 100000 in
theorem aarg {H : Type} {enc : TypeId × Value → H} {W : World} {r : Reach} {b0 base : Nat} {spare : Nat → Bool} {held : Bool} {v : Value} {d : DataW H} {p : List MemPlace} {ts : List TypeId} {ds : List (DataW H)}
    (hv : Value.okWide Try.prog W r b0 57 v) (h : DataW.Trod enc Try.prog W base spare held 57 v d p) (hsz : (DataW.weightsEach Try.prog ts ds).all (· ≤ reachBytes) = true) (j : Nat) (ht : ts[j]? = some 57) (hd : ds[j]? = some d) : AArg v W := by
  obtain ⟨a, len, cap, rfl⟩ := okWide_slice Try.underlying57 hv
  obtain ⟨fuel, hf⟩ := h
  have hC : Try.prog.cellsOf 68 = 3 := by kernel_rfl
  rcases Go.Deep.open_slice Try.underlying57 hf with ⟨hcs, _⟩ | ⟨x, l, c, m, nn, D, Pl, hcs, _, hl, hm, hmm, hxd, hx⟩
  · simp [Value.cells] at hcs
    obtain ⟨rfl, rfl, rfl⟩ := hcs
    exact ⟨none, 0, 0, rfl, by omega, fun i hi => by omega⟩
  · simp [Value.cells] at hcs
    obtain ⟨rfl, rfl, rfl⟩ := hcs
    have hsp : x.spot = none := by
      simp only [Value.okWide, Try.underlying57, Cell.okWide, Cell.ok] at hv
      exact hv.2.2.2.1
    have hadd : ∀ i, x.add i = ⟨x.block, x.off + i, none⟩ := fun i => by
      obtain ⟨xb, xo, xs⟩ := x
      cases hsp
      unfold Addr.add
      by_cases hi : i = 0
      · subst hi; simp
      · rw [if_neg hi]
    have hlm : len ≤ m := by rw [hmm]; split <;> omega
    refine ⟨some x, len, cap, rfl, ?_, fun i hi => ?_⟩
    · obtain ⟨rfl, _⟩ := Prod.mk.inj hxd
      have h1 := sized_slice hsz ht hd Try.underlying57
      rw [bytes68] at h1
      unfold reachBytes at h1
      simp at h1
      omega
    · obtain ⟨cs', h1, h2⟩ := hx i (by omega)
      rw [hC] at h1
      obtain ⟨_, hlen, hcell⟩ := World.cells?_some h1
      obtain ⟨k, m', t, rfl, hk⟩ := open_act h2
      refine ⟨x.block, x.off, k, m', t, by rw [show x = ⟨x.block, x.off, none⟩ from by cases x; simp_all], hk, fun j hj => ?_⟩
      have e := hcell j (by omega)
      rw [add_add, hadd, ← Nat.add_assoc] at e
      rw [e]
      rcases (by omega : j = 0 ∨ j = 1 ∨ j = 2) with rfl | rfl | rfl <;> rfl
end Go.Proofs.Ytboncdlihgpepaa
