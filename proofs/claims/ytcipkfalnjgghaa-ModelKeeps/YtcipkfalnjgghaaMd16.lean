/-
  Written.
-/
import Derived.Test.YtcipkfalnjgghaaMd15
import Derived.Test.YtcipkfalnjgghaaMdS
import Derived.Lib.SlKeysI
import Derived.RangeFuncNested
namespace Go.Proofs.Ytcipkfalnjgghaa
open Go.RowKit Go.BigFrame Go.Maps Go.Sort Go.Shelf
set_option linter.unusedVariables false
theorem sortsA (m : Nat) : AnyZI.SortsIn Try.prog sortedA_ren Fence.wide m :=
  ⟨fun blk off cap ss W hH hblk hsz => callsIn_wide.2 (AnyM.slices_Sort_int sortA blk off cap ss W hH hblk hsz),
   fun p cap W => callsIn_wide.2 (AnyM.slices_Sort_int_none sortA p cap W)⟩
theorem keys_call (b : Nat) (w : World) : Calls Try.prog 54 #[.map (some b)] w fun e w' => e = .returned (.func (.func 65) #[] #[.pointer (some ⟨w.heap.size, 0, none⟩)]) ∧ w' = w.alloc (.cells #[.map (some b)] 62) :=
  (callsIn_wide (n := 5)).1 (AnyZI.keys_in keysA Fence.wide 5 trivial rfl (some b) w)
theorem sorted_call {H : Type} (z b nn : Nat) (D0 : DataW H) (R : Value → Option (DataW H × List MemPlace)) (w : World) (hz : w.cell? ⟨z, 0, none⟩ = some (.map (some b))) (hl : z < w.heap.size) (hown : w.ownsMap Try.prog 3 R b nn D0) (hmax : Maps.size D0 ≤ maxLen) (hbytes : Maps.size D0 * 8 ≤ 140737488355328) :
    Calls Try.prog 53 #[.func (.func 65) #[] #[.pointer (some ⟨z, 0, none⟩)]] w fun e w' => ∃ (v : Value) (ss : List Int), e = .returned v ∧ ss.Perm (intKeys D0) ∧ w'.ownsRow w.heap.size 3 1 v ss.length ((ss.mergeSort (fun x y => decide (x ≤ y))).map encZ) ∧ (v = .slice none 0 0 ↔ ss = []) ∧ Below w.heap.size w w' := by
  refine (callsIn_wide (n := 6)).1 ?_
  have hseq : SeqGives Fence.wide 3 Try.prog 65 #[.pointer (some ⟨z, 0, none⟩)] encZ (fun ss => ss.Perm (intKeys D0)) (Maps.size D0) w :=
    AnyZI.keys_gives (ρ := keysA_ren) { keysA with } Fence.wide _ trivial rfl (by omega) z b nn D0 _ hl hz hown
  exact AnyZI.sorted_in sortedA Fence.wide 6 trivial trivial trivial trivial rfl (by omega) (sortsA _) (enters_of Try.func64 (by kernel_rfl) rfl) 65 #[.pointer (some ⟨z, 0, none⟩)] trivial (enters_of Try.func65 (by kernel_rfl) rfl) _ _ hmax hbytes _ hseq
theorem mem_wrL (s : MSt) (x : Int) : x ∈ wrL s ↔ 0 ≤ x ∧ x < s.h.se ∧ (s.S x).isSome = true := by
  unfold wrL
  simp only [List.mem_map, List.mem_filter, List.mem_range]
  constructor
  · rintro ⟨i, ⟨h1, h2⟩, rfl⟩
    exact ⟨by omega, by omega, h2⟩
  · rintro ⟨h1, h2, h3⟩
    refine ⟨x.toNat, ⟨by omega, ?_⟩, by omega⟩
    rwa [show ((x.toNat : Nat) : Int) = x by omega]
theorem wrL_sorted (s : MSt) : (wrL s).Pairwise fun a b => a < b := by
  unfold wrL
  refine List.pairwise_map.2 (List.Pairwise.imp (R := fun a b : Nat => a < b) (fun {a b} h => by omega) ?_)
  exact List.Pairwise.filter _ List.pairwise_lt_range
theorem wrL_len (s : MSt) : (wrL s).length ≤ s.h.se.toNat := by
  unfold wrL
  rw [List.length_map]
  exact Nat.le_trans (List.length_filter_le _ _) (by rw [List.length_range]; exact Nat.le_refl _)
theorem sort_wrL (s : MSt) {ss : List Int} (h : ss.Perm (wrL s)) : ss.mergeSort (fun x y => decide (x ≤ y)) = wrL s := by
  have h1 := mergeSort_of_perm_i h
  rw [show (ss.mergeSort fun x y => decide (x ≤ y)) = ss.mergeSort leI from rfl, h1]
  exact List.mergeSort_of_pairwise ((wrL_sorted s).imp fun h => by simp only [leI, decide_eq_true_eq]; omega)
theorem keys_wrL {F : Nat → Prop} {p C : Nat} {M : MLoc} {w : World} {s : MSt} (hM : MdM F p s C M w) : ∃ D, w.ownsMap Try.prog 3 RV M.sb C D ∧ (wrL s).Perm (intKeys D) := by
  obtain ⟨D, h1, h2⟩ := hM.mpS
  refine ⟨D, h1, ?_⟩
  have K : Keyed Try.prog 3 := int_keyed Try.underlying3
  obtain ⟨es, hD, hpw, _⟩ := h1.entries K
  obtain ⟨es', hD', hko⟩ := h1.keysOf
  obtain rfl : es = es' := by rw [hD] at hD'; simpa using hD'
  subst hD
  have hse := hM.okh.1.2.1
  refine perm_intKeys hpw (fun q hq => by obtain ⟨v, hv⟩ := hko q hq; obtain ⟨x, _, hx, _⟩ := Maps.keyOf_i64 Try.underlying3 hv; exact ⟨x, hx⟩) ((wrL_sorted s).imp fun h => by omega) fun x => ?_
  rw [mem_wrL]
  constructor
  · rintro ⟨a1, a2, a3⟩
    rw [(h2 x (WalkArith.wf_i64 (by omega))).1, Option.isSome_map]
    exact a3
  · intro hx
    have hok : okI x := by
      rw [Maps.has_eq, List.any_eq_true] at hx
      obtain ⟨q, hq, hs⟩ := hx
      obtain ⟨v, hv⟩ := hko q hq
      obtain ⟨y, _, hy, hl⟩ := Maps.keyOf_i64 Try.underlying3 hv
      rw [hy] at hs
      have : y = x := by simpa [Lit.sameKey, intOf] using hs
      subst this
      exact hl
    rw [(h2 x hok).1, Option.isSome_map] at hx
    have hne : s.S x ≠ none := fun e => by rw [e] at hx; cases hx
    obtain ⟨a1, a2⟩ := hM.kS x hne
    exact ⟨a1, a2, hx⟩
theorem own_of_row {base : Nat} {v : Value} {l : List Int} {w : World} (h : w.ownsRow base 3 1 v l.length (l.map encZ)) : OwnB base 3 v l.length (fun j => .int .i64 (l.getD j 0)) w := by
  have e : row l.length (fun j => Value.int .i64 (l.getD j 0)) = l.map encZ := by
    apply List.ext_getElem?
    intro j
    by_cases hj : j < l.length
    · rw [row_get _ _ _ hj, List.getElem?_map, List.getElem?_eq_getElem hj, List.getD_eq_getElem?_getD, List.getElem?_eq_getElem hj]
      rfl
    · rw [List.getElem?_eq_none (by rw [row_length]; omega), List.getElem?_eq_none (by rw [List.length_map]; omega)]
  unfold OwnB
  rw [e]
  exact h
set_option maxRecDepth 20000 in
set_option maxHeartbeats 4000000 in
theorem written_any {F : Nat → Prop} {p C : Nat} {M : MLoc} {w : World} (s : MSt) (hM : MdM F p s C M w) : Calls Try.prog 17 #[.pointer (some ⟨p, 0, none⟩)] w fun e w' => ∃ v, e = .returned v ∧ OwnB w.heap.size 3 v (wrL s).length (fun j => .int .i64 ((wrL s).getD j 0)) w' ∧ Ext w w' := by
  have hS := hM.st
  replace hS := hideit hS
  replace hM := hideit hM
  have hE := hideit (Ext.refl w)
  go_enter Try.func17, Try.ntmps17
  go_upto_region 1 with (fail)
  refine wp_region_lit ?_
  refine xm [some (.pointer (some ⟨p, 0, none⟩)), some (.bool false)] (by kernel_rfl) (by simp [xr, go_sem]) ?_
  simp only [xw, p0, p1, p2, p3]
  go_upto_region 3 with (fail)
  refine wp_region_lit ?_
  have m1 : w.cell? ⟨p, 24, none⟩ = some (.map (some M.sb)) := hS.out.1 24 (by decide)
  refine xm [some (.pointer (some ⟨p, 0, none⟩)), some (.pointer (some ⟨p, 0, none⟩)), some (.pointer (some ⟨p, 24, none⟩)), some (.map (some M.sb))] (by kernel_rfl) (by simp [xr, go_sem, m1]) ?_
  simp only [xw, p0, p1, p2, p3]
  clear m1
  refine wpList_call rfl (by simp [go_sem]) ((keys_call M.sb w).mono ?_)
  rintro e y1 ⟨rfl, hy1⟩
  refine ⟨_, rfl, ?_⟩
  have hz0 := (row1_new w (.map (some M.sb)) 62)
  rw [← hy1] at hz0
  have hXy : Ext w y1 := by rw [hy1]; exact (Below.refl _ _).alloc (Nat.le_refl _) _
  obtain ⟨z, ez⟩ : ∃ b, b = w.heap.size := ⟨_, rfl⟩
  rw [← ez] at hz0 ⊢
  have hz : Hid (y1.cell? ⟨z, 0, none⟩ = some (.map (some M.sb)) ∧ z < y1.heap.size) := ⟨hz0.1 0 (by decide), hz0.2.2⟩
  clear ez hz0 hy1
  simp only [Act.put, List.setIfInBounds_toArray, List.set_cons_zero, List.set_cons_succ]
  replace hS := hideit (hS.out.carry hXy)
  replace hM := hideit (hM.out.ext hXy)
  replace hE := hideit (Ext.trans hE.out (hXy))
  clear hXy
  have hBs := hideit (Below.size hE.out)
  obtain ⟨D, hD1, hD2⟩ := keys_wrL hM.out
  have hlen : Maps.size D ≤ 1024 := by
    have e1 : (intKeys D).length = Maps.size D := by
      obtain ⟨es, hD, _⟩ := hD1.keysOf
      rw [hD]
      exact List.length_map ..
    have e2 := hD2.length_eq
    have e3 := wrL_len s
    have e4 := hM.out.okh.1.2.1
    omega
  have kS := hideit (sorted_call z M.sb C D RV y1 hz.out.1 hz.out.2 hD1 (Nat.le_trans hlen (by decide)) (by omega))
  replace hD2 := hideit hD2
  clear hD1 hlen hz
  refine wpList_call rfl (by simp [go_sem]) ((kS.out).mono ?_)
  rintro e y2 ⟨v, ss, rfl, hp, hrow, hnil, hX2⟩
  refine ⟨_, rfl, ?_⟩
  simp only [Act.put, List.setIfInBounds_toArray, List.set_cons_zero, List.set_cons_succ]
  replace hS := hideit (hS.out.carry hX2)
  replace hM := hideit (hM.out.ext hX2)
  replace hE := hideit (Ext.trans hE.out (hX2))
  replace hp := hideit hp
  replace hrow := hideit hrow
  clear hX2 hnil kS
  refine xm [some (v)] (by kernel_rfl) (by simp [xr, go_sem]) ?_
  simp only [xw, p0, p1, p2, p3]
  go_wp2
  go_ret
  refine ⟨v, rfl, ?_, hE.out⟩
  have e1 := sort_wrL s (hp.out.trans hD2.out.symm)
  have hr := hrow.out
  rw [e1, show ss.length = (wrL s).length from (hp.out.trans hD2.out.symm).length_eq] at hr
  exact own_of_row (ownsRow_base_a hr hBs.out)
end Go.Proofs.Ytcipkfalnjgghaa
