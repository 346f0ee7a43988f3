/-
  The entries of a Sorted on their way; sorted, they are the list that tells it.
-/
import Derived.Test.YtboncdlihgpepaaSo3
namespace Go.Proofs.Ytboncdlihgpepaa
open Go.RowKit Go.BigFrame Go.Maps Go.ChangeMaps Go.MapKept
set_option linter.unusedVariables false
open Go.Shelf Go.Lib Go.Sort
theorem exec_range {P : Program} {o : Oper} {a : Act} {w w' : World} {t : TypeId} {m v : Value} (x : Operand) (ho : o.op = .range t x) (hx : a.eval x = m) (hr : (Instr.range t m).run P w = .ok v w') : (execOp a.eval o).run P w = .ok (.value v) w' := by
  simp [execOp, ho, hx, hr, Result.andThen]
theorem exec_next {P : Program} {o : Oper} {a : Act} {w w' : World} {m v : Value} (x : Operand) (ho : o.op = .next x false) (hx : a.eval x = m) (hr : (Instr.next m false o.type).run P w = .ok v w') : (execOp a.eval o).run P w = .ok (.value v) w' := by
  simp [execOp, ho, hx, hr, Result.andThen]
theorem exec_entry {P : Program} {o : Oper} {a : Act} {w w' : World} {m v : Value} (x : Operand) (ho : o.op = .entry x) (hx : a.eval x = m) (hr : (Instr.entry m).run P w = .ok v w') : (execOp a.eval o).run P w = .ok (.value v) w' := by
  simp [execOp, ho, hx, hr, Result.andThen]
/-- the cells of such a list -/
def pV (L : List KV) (j : Nat) : Value := if j % 2 = 0 then .int .i64 (L.getD (j / 2) kd).1 else .string (L.getD (j / 2) kd).2
theorem pV_one (L : List KV) (j : Nat) : (pV L j).oneCell' = true := by unfold pV; split <;> rfl
theorem getD_left (A B : List KV) {i : Nat} (h : i < A.length) : (A ++ B).getD i kd = A.getD i kd := by
  rw [List.getD_eq_getElem?_getD, List.getD_eq_getElem?_getD, List.getElem?_append_left h]
theorem getD_right (A B : List KV) (i : Nat) : (A ++ B).getD (A.length + i) kd = B.getD i kd := by
  rw [List.getD_eq_getElem?_getD, List.getD_eq_getElem?_getD, List.getElem?_append_right (Nat.le_add_right _ _), Nat.add_sub_cancel_left]
theorem pV_left (A B : List KV) {j : Nat} (h : j < A.length * 2) : pV A j = pV (A ++ B) j := by
  unfold pV
  rw [getD_left A B (by omega)]
theorem pV_right (A B : List KV) (j : Nat) : pV B j = pV (A ++ B) (A.length * 2 + j) := by
  unfold pV
  rw [show (A.length * 2 + j) / 2 = A.length + j / 2 by omega, show (A.length * 2 + j) % 2 = j % 2 by omega, getD_right]
theorem pV_single (x : Int) (t : ByteArray) (j : Nat) (h : j < 2) : (#[Value.int .i64 x, .string t] : Array Value)[j]? = some (pV [(x, t)] j) := by
  rcases (by omega : j = 0 ∨ j = 1) with rfl | rfl <;> rfl
theorem elem88 : ElemK Try.prog 85 88 2 24 := elem_k Try.underlying85 (by kernel_rfl) (by kernel_rfl) (by kernel_rfl)
theorem own_range_ne {base r k b n cnt : Nat} {v : Value} {g : Nat → Value} {m : Int → Option Value} {left : Int → Bool} {X : World} (hO : OwnK 2 base 88 v k g X) (hR : RangeAt Try.prog 3 b r n m left cnt X) : v.ownBlock ≠ some r := fun e => by
  obtain ⟨_, ⟨h1, _⟩ | ⟨g', cap, cur, h1, _, h2, _⟩⟩ := hO
  · rw [h1] at e
    cases e
  · rw [h1] at e
    injection e with e
    subst e
    obtain ⟨D, lf, ⟨es, clock, since, seen, c0, _, _, _, _, hr, _⟩, _⟩ := hR
    rw [hr] at h2
    cases h2
theorem own_map_ne {base k b n : Nat} {v : Value} {g : Nat → Value} {m : Int → Option Value} {X : World} (hO : OwnK 2 base 88 v k g X) (hR : MapAt Try.prog 3 b n m X) : v.ownBlock ≠ some b := fun e => by
  obtain ⟨_, ⟨h1, _⟩ | ⟨g', cap, cur, h1, _, h2, _⟩⟩ := hO
  · rw [h1] at e
    cases e
  · rw [h1] at e
    injection e with e
    subst e
    obtain ⟨D, ⟨es, clock, hb, _⟩, _⟩ := hR
    rw [hb] at h2
    cases h2
theorem MapL.range {b : Nat} {L : List KV} {w : World} (h : MapL b L w) :
    ∃ w', (Instr.range 81 (.map (some b))).run Try.prog w = .ok (.pointer (some ⟨w.heap.size, 0, none⟩)) w' ∧ RangeAt Try.prog 3 b w.heap.size L.length (kvm L) (fun x => (kvm L x).isSome) L.length w' ∧ w.grownBy w' none := by
  obtain ⟨D, h1, h2, h3⟩ := h.map
  obtain ⟨w', hrun, h4, h5, h6⟩ := h1.range (int_keyed Try.underlying3) Try.underlying81
  rw [h3] at h4
  exact ⟨w', hrun, ⟨D, _, h4, h2, fun x hx => (h2 x hx).1⟩, h5⟩
/-- the entries on their way -/
structure EnW (W : World) (mb : Nat) (L : List KV) (r : Nat) (lv : Value) (ls : List KV) (left : Int → Bool) (cnt : Nat) (X : World) : Prop where
  own : OwnK 2 W.heap.size 88 lv ls.length (pV ls) X
  rg : RangeAt Try.prog 3 mb r L.length (kvm L) left cnt X
  rn : W.heap.size ≤ r
  ext : Ext W X
  few : ls.length + cnt ≤ L.length
  mem : ∀ p ∈ ls, p ∈ L
  nd : ls.Pairwise fun a b => a.1 ≠ b.1
  lf : ∀ x, okI x → left x = false → (kget L x).isSome → ∃ p ∈ ls, p.1 = x
  lt : ∀ p ∈ ls, left p.1 = false
theorem EnW.next {W X Z : World} {mb r cnt cnt' : Nat} {L ls : List KV} {lv lv' : Value} {left : Int → Bool} {x : Int} {t : ByteArray} (h : EnW W mb L r lv ls left cnt X) (hx : left x = true) (ht : kget L x = some t) (hc : cnt' < cnt)
    (hE : Ext W Z) (hR : RangeAt Try.prog 3 mb r L.length (kvm L) (fun y => left y && !decide (y = x)) cnt' Z) (hO : OwnK 2 W.heap.size 88 lv' (ls.length + 1) (pV (ls ++ [(x, t)])) Z) : EnW W mb L r lv' (ls ++ [(x, t)]) (fun y => left y && !decide (y = x)) cnt' Z := by
  refine ⟨by rw [List.length_append]; exact hO, hR, h.rn, hE, by rw [List.length_append]; have := h.few; simp; omega, fun p hp => ?_, ?_, fun y hy hl hs => ?_, fun p hp => ?_⟩
  · rcases List.mem_append.1 hp with hp | hp
    · exact h.mem p hp
    · rw [List.mem_singleton.1 hp]
      exact kget_some ht
  · refine List.pairwise_append.2 ⟨h.nd, List.pairwise_singleton _ _, fun a ha b hb => ?_⟩
    rw [List.mem_singleton.1 hb]
    intro e
    have := h.lt a ha
    rw [e, hx] at this
    cases this
  · by_cases e : y = x
    · exact ⟨(x, t), by simp, e.symm⟩
    · rw [decide_eq_false e, Bool.not_false, Bool.and_true] at hl
      obtain ⟨p, hp, e2⟩ := h.lf y hy hl hs
      exact ⟨p, List.mem_append.2 (.inl hp), e2⟩
  · rcases List.mem_append.1 hp with hp | hp
    · rw [h.lt p hp, Bool.false_and]
    · rw [List.mem_singleton.1 hp]
      simp
/-- the entries, sorted, are the list -/
theorem sorted_is {L ls : List KV} {d' : Array KV} (hL : Ris L) (hp : PermIn 0 ls.length ls.toArray d') (hs : SortedIn (ltOf fun x y : KV => compareInt x.1 y.1) 0 ls.length d') (hnd : ls.Pairwise fun a b => a.1 ≠ b.1) (hm : ∀ p, p ∈ ls ↔ p ∈ L) : d'.toList = L := by
  obtain ⟨h1, _, h3⟩ := hp
  have hsz : d'.size = ls.length := by rw [h1]; simp
  have h4 : d'.toList.Perm ls := by
    have e1 : d'.extract 0 ls.length = d' := by rw [← hsz]; exact Array.extract_size
    have e2 : (ls.toArray).extract 0 ls.length = ls.toArray := by
      have := Array.extract_size (xs := ls.toArray)
      rw [List.size_toArray] at this
      exact this
    rw [e1, e2] at h3
    exact h3
  refine ris_ext (List.pairwise_iff_getElem.2 fun i j hi hj hij => ?_) hL fun p => h4.mem_iff.trans (hm p)
  have hi' : i < d'.size := by simpa using hi
  have hj' : j < d'.size := by simpa using hj
  have h5 := hs i j (Nat.zero_le _) hij (by omega)
  rw [ltKp, getElem!_pos d' i hi', getElem!_pos d' j hj'] at h5
  have h6 := of_decide_eq_false h5
  have h7 : d'.toList.Pairwise fun a b => a.1 ≠ b.1 := h4.symm.pairwise hnd fun {a b} hab => Ne.symm hab
  have h8 := List.pairwise_iff_getElem.1 h7 i j hi hj hij
  rw [Array.getElem_toList, Array.getElem_toList] at h8 ⊢
  omega
theorem holds_kv {L : List KV} {b : Nat} {X : World} (h : RowAt b (L.length * 2) (pV L) X) : HoldsK encKp 2 X b 0 L.toArray := fun j hj => by
  rw [size_flatK, List.size_toArray] at hj
  have hjl : j / 2 < L.length := by omega
  rw [get_flatK encKp 2 _ j (by rw [List.size_toArray]; exact hj), Nat.zero_add]
  have e : (L.toArray)[j / 2]! = L.getD (j / 2) kd := by
    rw [getElem!_pos L.toArray (j / 2) (by simpa using hjl), List.getD_eq_getElem?_getD, List.getElem?_eq_getElem hjl]
    simp
  have e2 : (encKp (L.getD (j / 2) kd))[j % 2]! = pV L j := by
    unfold pV
    rcases (by omega : j % 2 = 0 ∨ j % 2 = 1) with e3 | e3
    · rw [e3, if_pos rfl]; rfl
    · rw [e3, if_neg (by decide)]; rfl
  rw [e, e2]
  exact ⟨h.1 j hj, h.2.1 j hj⟩
theorem grownBy_kv {w : World} {g n : Nat} {os : Array Obj} (d : Array KV) : w.grownBy (sortWorldK encKp 2 w g 0 n d os) (some g) := by
  have hsz : w.heap.size ≤ (sortWorldK encKp 2 w g 0 n d os).heap.size := by
    show w.heap.size ≤ (w.heap.modify g (onCells (putCells id 0 (flatK encKp 2 d))) ++ os).size
    simp
  refine { os := rfl, tape := rfl, output := rfl, size := hsz, block := fun i hi hn => ?_ }
  show (w.heap.modify g (onCells (putCells id 0 (flatK encKp 2 d))) ++ os)[i]? = w.heap[i]?
  rw [Array.getElem?_append_left (by simpa using hi), Array.getElem?_modify, if_neg fun e => hn (congrArg some e.symm)]
/-- the sort, at a list whose numbers are those of L -/
theorem sort_kv {W X : World} {L ls : List KV} {v : Value} (hO : OwnK 2 W.heap.size 88 v ls.length (pV ls) X) (hE : Ext W X) (hL : Ris L) (hle : ls.length ≤ 4398046511104) (hnd : ls.Pairwise fun a b => a.1 ≠ b.1) (hm : ∀ p, p ∈ ls ↔ p ∈ L) :
    Calls Try.prog 50 #[v, .func (.func 51) #[] #[]] X fun e w' => e = .returned (.tuple #[]) ∧ Ext W w' ∧ ls.length = L.length ∧ (L = [] ∨ ∃ b cap, v = .slice (some ⟨b, 0, none⟩) ls.length cap ∧ W.heap.size ≤ b ∧ RowAt b (L.length * 2) (pV L) w') := by
  by_cases h0 : ls = []
  · subst h0
    obtain ⟨o, cap, rfl⟩ := hO.form
    have hL0 : L = [] := List.eq_nil_iff_forall_not_mem.2 fun p hp => by have := (hm p).2 hp; cases this
    subst hL0
    refine (sort_tiny o 0 cap (by decide) _ X).mono ?_
    rintro e w' ⟨rfl, rfl⟩
    exact ⟨rfl, hE, rfl, .inl rfl⟩
  · have hpos : 0 < ls.length := List.length_pos_iff.2 h0
    obtain ⟨b, cap, rfl, hb, _, _, hr⟩ := hO.lies hpos
    have hH := holds_kv hr
    have hs := sort_any b cap ls.toArray X hH hr.2.2 (by rw [List.size_toArray]; omega)
    rw [List.size_toArray] at hs
    refine hs.mono ?_
    rintro e w' ⟨rfl, d', n, os, hp, hso, hw⟩
    have hd := sorted_is hL hp hso hnd hm
    have hsz : d'.size = ls.length := by rw [hp.1]; simp
    have hll : L.length = ls.length := by rw [← hd, ← hsz]; simp
    have hg : X.grownBy w' (some b) := by rw [hw]; exact grownBy_kv d'
    have hlt : b < (putRowK encKp 2 (Sort.ahead X n) b 0 d').heap.size := by
      have : (putRowK encKp 2 (Sort.ahead X n) b 0 d').heap.size = X.heap.size := by simp [putRowK, putRow, mapBlock, Sort.ahead]
      rw [this]
      exact hr.2.2
    have hH' : HoldsK encKp 2 w' b 0 d' := by
      rw [hw]
      exact holdsK_grow encKp 2 _ os b 0 d' hlt (holdsK_putRowK encKp 2 (Sort.ahead X n) b 0 ls.toArray d' (fun j hj => hH j hj) (by rw [hsz, List.size_toArray]))
    have hR' : RowAt b (L.length * 2) (pV L) w' := by
      have key : ∀ j, j < L.length * 2 → (flatK encKp 2 d')[j]! = pV L j := fun j hj => by
        have hjl : j / 2 < L.length := by omega
        rw [get_flatK encKp 2 _ j (by rw [hsz]; omega)]
        have e : d'[j / 2]! = L.getD (j / 2) kd := by
          have hjd : j / 2 < d'.size := by omega
          have hjt : j / 2 < d'.toList.length := by simpa using hjd
          rw [getElem!_pos d' (j / 2) hjd, List.getD_eq_getElem?_getD, ← hd, List.getElem?_eq_getElem hjt]
          simp
        rw [e]
        unfold pV
        rcases (by omega : j % 2 = 0 ∨ j % 2 = 1) with e3 | e3
        · rw [e3, if_pos rfl]; rfl
        · rw [e3, if_neg (by decide)]; rfl
      refine ⟨fun j hj => ?_, fun j hj => ?_, ?_⟩
      · have e1 := (hH' j (by rw [size_flatK, hsz]; omega)).1
        rw [key j hj, Nat.zero_add] at e1
        exact e1
      · have e2 := (hH' j (by rw [size_flatK, hsz]; omega)).2
        rw [Nat.zero_add] at e2
        exact e2
      · exact Nat.lt_of_lt_of_le hr.2.2 hg.size
    exact ⟨rfl, Below.trans hE (below_grown (Below.size hE) hg fun c hc => by cases hc; exact hb), hll.symm, .inr ⟨b, cap, rfl, hb, hR'⟩⟩
end Go.Proofs.Ytboncdlihgpepaa
