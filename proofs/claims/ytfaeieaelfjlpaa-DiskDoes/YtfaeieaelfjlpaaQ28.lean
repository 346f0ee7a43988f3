/-
  The order of Unsure: by the block's number. What the sort leaves of the list of Unsure: the same blocks, in their order.
-/
import Derived.Test.YtfaeieaelfjlpaaQ27
namespace Go.Proofs.Ytfaeieaelfjlpaa
open Go.Shelf Go.RowKit Go.BigFrame Go.Lib Go.Sort
theorem nan50 (a : Int) (W : World) : Calls Try.prog 50 #[.int .i64 a] W fun e w' => e = .returned (.bool false) ∧ w' = W := by
  go_enter Try.func50, Try.ntmps50
  go_wp2
  go_ret
  exact ⟨by simp, rfl⟩
theorem cmp41 (a b : Int) (W : World) : Calls Try.prog 41 #[.int .i64 a, .int .i64 b] W fun e w' => e = .returned (.int .i64 (compareInt a b)) ∧ w' = W := by
  have ka := hideit (nan50 a W)
  have kb := hideit (nan50 b W)
  unfold compareInt
  by_cases h1 : a < b
  · rw [if_pos h1]
    go_enter Try.func41, Try.ntmps41
    go_wp2_with (first | (go_at_call 50; refine ka.out.mono ?_; rintro e w9 ⟨rfl, hw9⟩; rw [hw9]; clear hw9) | (go_at_call 50; refine kb.out.mono ?_; rintro e w9 ⟨rfl, hw9⟩; rw [hw9]; clear hw9))
    go_ret
    exact ⟨rfl, rfl⟩
  · rw [if_neg h1]
    by_cases h2 : a > b
    · rw [if_pos h2]
      have h2' : b < a := h2
      clear h2
      go_enter Try.func41, Try.ntmps41
      go_wp2_with (first | (go_at_call 50; refine ka.out.mono ?_; rintro e w9 ⟨rfl, hw9⟩; rw [hw9]; clear hw9) | (go_at_call 50; refine kb.out.mono ?_; rintro e w9 ⟨rfl, hw9⟩; rw [hw9]; clear hw9))
      go_ret
      exact ⟨rfl, rfl⟩
    · rw [if_neg h2]
      have h2' : ¬ b < a := h2
      clear h2
      go_enter Try.func41, Try.ntmps41
      go_wp2_with (first | (go_at_call 50; refine ka.out.mono ?_; rintro e w9 ⟨rfl, hw9⟩; rw [hw9]; clear hw9) | (go_at_call 50; refine kb.out.mono ?_; rintro e w9 ⟨rfl, hw9⟩; rw [hw9]; clear hw9))
      go_ret
      exact ⟨rfl, rfl⟩
def encKp (x : Int × Int) : List Value := [.int .i64 x.1, .int .i64 x.2]
set_option maxHeartbeats 1000000 in
theorem closure40 (x y : Int × Int) (W : World) : Calls Try.prog 40 #[.agg #[.int .i64 x.1, .int .i64 x.2], .agg #[.int .i64 y.1, .int .i64 y.2]] W fun e w' => e = .returned (.int .i64 (compareInt x.1 y.1)) ∧ ∃ q os', w' = grow (W.drewN q) os' := by
  have hcon := fun W' => cmp41 x.1 y.1 W'
  generalize compareInt x.1 y.1 = r at hcon ⊢
  go_enter Try.func40, Try.ntmps40
  go_wp2_with (go_at_call 41; refine (hcon _).mono ?_; rintro e w' ⟨rfl, rfl⟩)
  go_ret
  exact ⟨rfl, 0, _, by rw [alloc_eq_grow, alloc_eq_grow, grow_grow]; rfl⟩
theorem cmpLays40 (blk off size : Nat) (w : World) : CmpLays Try.prog 40 #[] encKp 2 (fun x y => compareInt x.1 y.1) blk off size w :=
  fun _ _ _ _ x y => closure40 x y _
theorem ltKp (x y : Int × Int) : ltOf (fun x y : Int × Int => compareInt x.1 y.1) x y = decide (x.1 < y.1) := by
  unfold ltOf compareInt
  by_cases h1 : x.1 < y.1
  · simp [h1]
  · by_cases h2 : y.1 < x.1 <;> simp [h1, h2]
theorem swoKp : SWO (ltOf fun x y : Int × Int => compareInt x.1 y.1) := { irrefl := fun x => by rw [ltKp]; simp, trans := fun x y z h1 h2 => by rw [ltKp] at *; simp at *; omega, ntrans := fun x y z h1 h2 => by rw [ltKp] at *; simp at *; omega }
theorem isAgg65 (w : World) : (isAgg 65).run Try.prog w = .ok true w := by kernel_rfl
theorem sizeOf65 (w : World) : (sizeOf 65).run Try.prog w = .ok 2 w := by kernel_rfl
/-- the sort, of a list of any length -/
theorem sort_any (blk cap : Nat) (d : Array (Int × Int)) (w : World) (hH : HoldsK encKp 2 w blk 0 d) (hblk : blk < w.heap.size) (hsz : d.size < 4611686018427387904) :
    Calls Try.prog 39 #[.slice (some ⟨blk, 0, none⟩) d.size cap, .func (.func 40) #[] #[]] w fun e w' => e = .returned (.tuple #[]) ∧ ∃ d' n os, PermIn 0 d.size d d' ∧ SortedIn (ltOf fun x y : Int × Int => compareInt x.1 y.1) 0 d.size d' ∧ w' = sortWorldK encKp 2 w blk 0 n d' os := by
  have eg : ∀ args w, (callFunc 40 args).run Try.prog w = .ok (.enter 40 args) w := enters_of Try.func40 (by kernel_rfl) rfl
  have hcon := AnyQ.slices_SortFunc sortKp 2 isAgg65 sizeOf65 encKp (fun _ => rfl) (fun x v hv => by simp [encKp] at hv; rcases hv with rfl | rfl <;> rfl) (fun x y => compareInt x.1 y.1) swoKp 40 #[] blk 0 cap d w eg (cmpLays40 blk 0 d.size w) hH hblk hsz
  exact hcon
end Go.Proofs.Ytfaeieaelfjlpaa
namespace Go.Proofs.Ytfaeieaelfjlpaa
open Go.Shelf Go.RowKit Go.BigFrame Go.Lib Go.Sort
/-- the list as pairs -/
def dK (s : DSt) (ks : Nat → Int) (k : Nat) : Array (Int × Int) := ((List.range k).map fun j => (ks j, kcI s ks j)).toArray
theorem dK_size (s : DSt) (ks : Nat → Int) (k : Nat) : (dK s ks k).size = k := by simp [dK]
theorem get_mem {d : Array (Int × Int)} {j : Nat} (hj : j < d.size) : d[j]! ∈ d.toList := by
  rw [getElem!_pos d j hj]
  exact Array.getElem_mem_toList hj
theorem perm_lst {s : DSt} {ks : Nat → Int} {k : Nat} {d' : Array (Int × Int)} (hp : PermIn 0 k (dK s ks k) d') (hs : SortedIn (ltOf fun x y : Int × Int => compareInt x.1 y.1) 0 k d') (hL : Lst s ks k) :
    d'.size = k ∧ Lst s (fun j => (d'[j]!).1) k ∧ (∀ a b, a < b → b < k → (d'[a]!).1 < (d'[b]!).1) ∧ ∀ j, j < k → d'[j]! = ((d'[j]!).1, (s.kc (d'[j]!).1.toNat : Int)) := by
  obtain ⟨h1, _, h3⟩ := hp
  have hsz : d'.size = k := by rw [h1, dK_size]
  have h4 : d'.toList.Perm (dK s ks k).toList := by
    have e1 : d'.extract 0 k = d' := by rw [← hsz]; exact Array.extract_size
    have e2 : (dK s ks k).extract 0 k = dK s ks k := by
      have := Array.extract_size (xs := dK s ks k)
      rw [dK_size] at this
      exact this
    rw [e1, e2] at h3
    exact h3
  have hl : (dK s ks k).toList = (List.range k).map fun j => (ks j, kcI s ks j) := rfl
  rw [hl] at h4
  have hmem : ∀ j, j < k → ∃ i, i < k ∧ d'[j]! = (ks i, kcI s ks i) := fun j hj => by
    have := h4.mem_iff.1 (get_mem (d := d') (j := j) (by omega))
    obtain ⟨i, hi, e⟩ := List.mem_map.1 this
    exact ⟨i, List.mem_range.1 hi, e.symm⟩
  have hall : ∀ i, i < k → ∃ j, j < k ∧ d'[j]! = (ks i, kcI s ks i) := fun i hi => by
    have := h4.mem_iff.2 (List.mem_map.2 ⟨i, List.mem_range.2 hi, rfl⟩)
    obtain ⟨j, hj, e⟩ := List.getElem_of_mem this
    have hj' : j < d'.size := by simpa using hj
    exact ⟨j, by omega, by rw [getElem!_pos d' j hj', ← e]; simp⟩
  have hnd : ((d'.toList).map Prod.fst).Nodup := by
    refine (h4.map Prod.fst).nodup_iff.2 ?_
    rw [List.map_map]
    refine List.pairwise_map.2 (List.pairwise_iff_getElem.2 fun i j hi hj hij => ?_)
    rw [List.getElem_range, List.getElem_range]
    have hi' : i < k := by simpa using hi
    have hj' : j < k := by simpa using hj
    show ks i ≠ ks j
    exact fun e => absurd (hL.inj i j hi' hj' e) (by omega)
  have hne : ∀ a b, a < b → b < k → (d'[a]!).1 ≠ (d'[b]!).1 := fun a b hab hb => by
    have h5 := List.pairwise_iff_getElem.1 hnd a b (by simp; omega) (by simp; omega) hab
    rw [List.getElem_map, List.getElem_map, Array.getElem_toList, Array.getElem_toList] at h5
    rw [getElem!_pos d' a (by omega), getElem!_pos d' b (by omega)]
    exact h5
  have hinc : ∀ a b, a < b → b < k → (d'[a]!).1 < (d'[b]!).1 := fun a b hab hb => by
    have h6 := hs a b (Nat.zero_le _) hab hb
    rw [ltKp] at h6
    have h7 := of_decide_eq_false h6
    have h8 := hne a b hab hb
    omega
  have hkc : ∀ j, j < k → d'[j]! = ((d'[j]!).1, (s.kc (d'[j]!).1.toNat : Int)) := fun j hj => by
    obtain ⟨i, _, e⟩ := hmem j hj
    rw [e]
    rfl
  refine ⟨hsz, ⟨fun j hj => ?_, fun n hn hk => ?_, fun i j hi hj e => ?_⟩, hinc, hkc⟩
  · obtain ⟨i, hi, e⟩ := hmem j hj
    show ∃ n : Nat, (d'[j]!).1 = (n : Int) ∧ _
    rw [e]
    exact hL.isN i hi
  · obtain ⟨i, hi, e⟩ := hL.all n hn hk
    obtain ⟨j, hj, e2⟩ := hall i hi
    exact ⟨j, hj, by show (d'[j]!).1 = (n : Int); rw [e2]; exact e⟩
  · have e' : (d'[i]!).1 = (d'[j]!).1 := e
    rcases Nat.lt_trichotomy i j with l | l | l
    · exact absurd e' (hne i j l hj)
    · exact l
    · exact absurd e'.symm (hne j i l hi)
end Go.Proofs.Ytfaeieaelfjlpaa
