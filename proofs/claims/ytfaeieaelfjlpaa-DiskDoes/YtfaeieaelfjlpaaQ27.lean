/-
  Two lists of the blocks with unsure writes, both in their order, are one; what a crash may keep, in the document's words. The library's sort, laid at the disk's own: the table of numbers, and each body compared.
-/
import Derived.Test.YtfaeieaelfjlpaaQ26
import Derived.Shelf.SlSortCmp.WholeK
import Derived.Shelf.SlGeneric
import Derived.Ground.SlsfProg
namespace Go.Proofs.Ytfaeieaelfjlpaa
open Go.RowKit Go.BigFrame Go.Maps
section
variable {s : DSt} {k k' : Nat} {ks ks' : Nat → Int}
theorem lst_pre (h : Lst s ks k) (hi : ∀ a b, a < b → b < k → ks a < ks b) (h' : Lst s ks' k') (hi' : ∀ a b, a < b → b < k' → ks' a < ks' b) : ∀ j, j < k → j < k' → ks j = ks' j := by
  intro j
  induction j using Nat.strongRecOn with
  | _ j ih =>
    intro hj hj'
    rcases Int.lt_trichotomy (ks j) (ks' j) with e | e | e
    · exfalso
      obtain ⟨n, e1, hn, hk⟩ := h.isN j hj
      obtain ⟨j', hj1, e2⟩ := h'.all n hn hk
      rcases Nat.lt_trichotomy j' j with l | l | l
      · have a1 := ih j' l (by omega) hj1
        have a2 := hi j' j l hj
        omega
      · rw [l] at e2
        omega
      · have a2 := hi' j j' l hj1
        omega
    · exact e
    · exfalso
      obtain ⟨n, e1, hn, hk⟩ := h'.isN j hj'
      obtain ⟨j', hj1, e2⟩ := h.all n hn hk
      rcases Nat.lt_trichotomy j' j with l | l | l
      · have a1 := ih j' l hj1 (by omega)
        have a2 := hi' j' j l hj'
        omega
      · rw [l] at e2
        omega
      · have a2 := hi j j' l hj1
        omega
theorem lst_le (h : Lst s ks k) (hi : ∀ a b, a < b → b < k → ks a < ks b) (h' : Lst s ks' k') (hi' : ∀ a b, a < b → b < k' → ks' a < ks' b) : k' ≤ k := by
  rcases Nat.lt_or_ge k k' with l | l
  · exfalso
    obtain ⟨n, e1, hn, hk⟩ := h'.isN k l
    obtain ⟨j, hj, e2⟩ := h.all n hn hk
    have a1 := lst_pre h hi h' hi' j hj (by omega)
    have a2 := hi' j k hj l
    omega
  · exact l
theorem lst_one (h : Lst s ks k) (hi : ∀ a b, a < b → b < k → ks a < ks b) (h' : Lst s ks' k') (hi' : ∀ a b, a < b → b < k' → ks' a < ks' b) : k = k' ∧ ∀ j, j < k → ks j = ks' j := by
  have e : k = k' := Nat.le_antisymm (lst_le h' hi' h hi) (lst_le h hi h' hi')
  exact ⟨e, fun j hj => lst_pre h hi h' hi' j hj (by omega)⟩
end
/-- the i-th of keep may be, as the document says it -/
def vdD (s : DSt) (kb kw : Nat → Int) (i : Nat) : Prop := (inN s.N (kb i) = true ∧ 0 ≤ kw i ∧ kw i ≤ (s.kc (kb i).toNat : Int)) ∧ ∀ j, j < i → kb j ≠ kb i
def okD (s : DSt) (kb kw : Nat → Int) (k : Nat) : Prop := ∀ i, i < k → vdD s kb kw i
theorem mK_none (M : DM) (kb kw : Nat → Int) : ∀ (i : Nat) (y : Int), mK M kb kw i y = none ↔ ∀ j, j < i → kb j ≠ y
  | 0, _ => ⟨fun _ j hj => absurd hj (Nat.not_lt_zero _), fun _ => rfl⟩
  | i + 1, y => by
    show mset (mK M kb kw i) (kb i) (some (cutV (lsV M (kb i).toNat) (kw i).toNat)) y = none ↔ _
    unfold mset
    by_cases e : y = kb i
    · rw [if_pos e]
      refine ⟨fun h => (by cases h), fun h => absurd e.symm (h i (by omega))⟩
    · rw [if_neg e, mK_none M kb kw i y]
      refine ⟨fun h j hj => ?_, fun h j hj => h j (by omega)⟩
      by_cases e2 : j = i
      · rw [e2]
        exact fun e3 => e e3.symm
      · exact h j (by omega)
theorem okK_iff (s : DSt) (M : DM) (kb kw : Nat → Int) (k : Nat) : okK s M kb kw k ↔ okD s kb kw k := by
  refine ⟨fun h i hi => ?_, fun h i hi => ?_⟩
  · obtain ⟨a, b⟩ := h i hi
    exact ⟨b, (mK_none M kb kw i (kb i)).1 a⟩
  · obtain ⟨a, b⟩ := h i hi
    exact ⟨(mK_none M kb kw i (kb i)).2 b, a⟩
end Go.Proofs.Ytfaeieaelfjlpaa
namespace Go.Proofs.Ytfaeieaelfjlpaa
open Go.Shelf
def sortKp_ren : Go.Shelf.Ren := ⟨fun | 6 => 39 | 15 => 49 | 14 => 48 | 28 => 61 | 29 => 62 | 20 => 53 | 21 => 54 | 22 => 55 | 23 => 56 | 24 => 57 | 25 => 58 | 26 => 59 | 27 => 60 | 46 => 63 | 47 => 64 | 48 => 65 | 49 => 66 | 50 => 67 | 57 => 68 | n => n, fun | 22 => 32 | 24 => 65 | 25 => 71 | 3 => 3 | 39 => 75 | 0 => 0 | 53 => 82 | 55 => 85 | 4 => 4 | 46 => 90 | 45 => 89 | 50 => 94 | 5 => 5 | 9 => 9 | 66 => 98 | 70 => 102 | 76 => 104 | 77 => 105 | n => n, fun | n => n⟩
theorem sortKp : Go.Proofs.SlLaysF0.n6 Try.prog sortKp_ren := {
  mixed := by kernel_rfl
  f6 := ⟨Try.f39.name, by decide, Try.func39.trans (congrArg some (by kernel_rfl))⟩
  f14 := ⟨Try.f48.name, by decide, Try.func48.trans (congrArg some (by kernel_rfl))⟩
  f15 := Try.func49.trans (congrArg some (by kernel_rfl))
  f20 := ⟨Try.f53.name, by decide, Try.func53.trans (congrArg some (by kernel_rfl))⟩
  f21 := ⟨Try.f54.name, by decide, Try.func54.trans (congrArg some (by kernel_rfl))⟩
  f22 := ⟨Try.f55.name, by decide, Try.func55.trans (congrArg some (by kernel_rfl))⟩
  f23 := ⟨Try.f56.name, by decide, Try.func56.trans (congrArg some (by kernel_rfl))⟩
  f24 := ⟨Try.f57.name, by decide, Try.func57.trans (congrArg some (by kernel_rfl))⟩
  f25 := ⟨Try.f58.name, by decide, Try.func58.trans (congrArg some (by kernel_rfl))⟩
  f26 := ⟨Try.f59.name, by decide, Try.func59.trans (congrArg some (by kernel_rfl))⟩
  f27 := ⟨Try.f60.name, by decide, Try.func60.trans (congrArg some (by kernel_rfl))⟩
  f28 := Try.func61.trans (congrArg some (by kernel_rfl))
  f29 := Try.func62.trans (congrArg some (by kernel_rfl))
  f46 := ⟨Try.f63.name, by decide, Try.func63.trans (congrArg some (by kernel_rfl))⟩
  f47 := Try.func64.trans (congrArg some (by kernel_rfl))
  f48 := Try.func65.trans (congrArg some (by kernel_rfl))
  f49 := ⟨Try.f66.name, by decide, Try.func66.trans (congrArg some (by kernel_rfl))⟩
  f50 := ⟨Try.f67.name, by decide, Try.func67.trans (congrArg some (by kernel_rfl))⟩
  f57 := ⟨Try.f68.name, by decide, Try.func68.trans (congrArg some (by kernel_rfl))⟩
  t0 := Try.underlying0
  a0 := Try.isAgg0
  z0 := Try.sizeOf0
  v0 := Try.zeroValue0
  t3 := Try.underlying3
  a3 := Try.isAgg3
  z3 := Try.sizeOf3
  v3 := Try.zeroValue3
  t4 := Try.underlying4
  a4 := Try.isAgg4
  z4 := Try.sizeOf4
  v4 := Try.zeroValue4
  t5 := Try.underlying5
  a5 := Try.isAgg5
  z5 := Try.sizeOf5
  v5 := Try.zeroValue5
  t9 := Try.underlying9
  a9 := Try.isAgg9
  z9 := Try.sizeOf9
  v9 := Try.zeroValue9
  t22 := Try.underlying32
  a22 := Try.isAgg32
  z22 := Try.sizeOf32
  v22 := Try.zeroValue32
  t25 := Try.underlying71
  a25 := Try.isAgg71
  z25 := Try.sizeOf71
  v25 := Try.zeroValue71
  t39 := Try.underlying75
  a39 := Try.isAgg75
  z39 := Try.sizeOf75
  v39 := Try.zeroValue75
  t45 := Try.underlying89
  a45 := Try.isAgg89
  z45 := Try.sizeOf89
  v45 := Try.zeroValue89
  t46 := Try.underlying90
  a46 := Try.isAgg90
  z46 := Try.sizeOf90
  v46 := Try.zeroValue90
  t50 := Try.underlying94
  a50 := Try.isAgg94
  z50 := Try.sizeOf94
  v50 := Try.zeroValue94
  t53 := Try.underlying82
  a53 := Try.isAgg82
  z53 := Try.sizeOf82
  v53 := Try.zeroValue82
  t55 := Try.underlying85
  a55 := Try.isAgg85
  z55 := Try.sizeOf85
  v55 := Try.zeroValue85
  t66 := Try.underlying98
  a66 := Try.isAgg98
  z66 := Try.sizeOf98
  v66 := Try.zeroValue98
  t70 := Try.underlying102
  a70 := Try.isAgg102
  z70 := Try.sizeOf102
  v70 := Try.zeroValue102
  t76 := Try.underlying104
  a76 := Try.isAgg104
  z76 := Try.sizeOf104
  v76 := Try.zeroValue104
  t77 := Try.underlying105
  a77 := Try.isAgg105
  z77 := Try.sizeOf105
  v77 := Try.zeroValue105 }
end Go.Proofs.Ytfaeieaelfjlpaa
