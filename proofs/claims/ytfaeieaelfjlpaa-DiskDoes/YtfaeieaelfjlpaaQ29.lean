/-
  Unsure of a disk, at any length: the blocks with unsure writes, in their order. Two Kepts that are one, compared.
-/
import Derived.Test.YtfaeieaelfjlpaaQ28
import Derived.Test.YtfaeieaelfjlpaaQ19
namespace Go.Proofs.Ytfaeieaelfjlpaa
open Go.Shelf Go.RowKit Go.BigFrame Go.Lib Go.Sort Go.Maps
theorem dK_get (s : DSt) (ks : Nat → Int) (k j : Nat) (hj : j < k) : (dK s ks k)[j]! = (ks j, kcI s ks j) := by
  rw [getElem!_pos (dK s ks k) j (by rw [dK_size]; exact hj)]
  simp [dK]
theorem enc_kp (a b : Int) (j : Nat) (hj : j < 2) : (encKp (a, b))[j]! = kpI a b j := by
  rcases (by omega : j = 0 ∨ j = 1) with rfl | rfl <;> rfl
theorem holds_kp {s : DSt} {ks : Nat → Int} {k b : Nat} {X : World} (h : RowAt b (k * 2) (kpV ks (kcI s ks)) X) : HoldsK encKp 2 X b 0 (dK s ks k) := fun j hj => by
  rw [size_flatK, dK_size] at hj
  rw [get_flatK encKp 2 _ j (by rw [dK_size]; exact hj), dK_get s ks k (j / 2) (by omega), enc_kp _ _ _ (Nat.mod_lt _ (by decide)), Nat.zero_add]
  exact ⟨h.1 j hj, h.2.1 j hj⟩
theorem grownBy_kp {w : World} {g n : Nat} {os : Array Obj} (d : Array (Int × Int)) : w.grownBy (sortWorldK encKp 2 w g 0 n d os) (some g) := by
  have hsz : w.heap.size ≤ (sortWorldK encKp 2 w g 0 n d os).heap.size := by
    show w.heap.size ≤ (w.heap.modify g (onCells (putCells id 0 (flatK encKp 2 d))) ++ os).size
    simp
  refine { os := rfl, tape := rfl, output := rfl, size := hsz, block := fun i hi hn => ?_ }
  show (w.heap.modify g (onCells (putCells id 0 (flatK encKp 2 d))) ++ os)[i]? = w.heap[i]?
  rw [Array.getElem?_append_left (by simpa using hi), Array.getElem?_modify, if_neg fun e => hn (congrArg some e.symm)]
/-- the list, as Unsure leaves it -/
def UnV (s : DSt) (v : Value) (X : World) : Prop := ∃ k ks, Lst s ks k ∧ (∀ a b, a < b → b < k → ks a < ks b) ∧ k ≤ 4096 ∧ ((k = 0 ∧ ∃ o cap, v = .slice o 0 cap) ∨ ∃ b cap, v = .slice (some ⟨b, 0, none⟩) k cap ∧ RowAt b (k * 2) (kpV ks (kcI s ks)) X)
theorem dunsure {F : Nat → Prop} {p : Nat} {s : DSt} {C : Nat} {M : DM} {W : World} (h : DkM F p s C M W) : Calls Try.prog 17 #[.pointer (some ⟨p, 0, none⟩)] W fun e w' => ∃ v, e = .returned v ∧ Ext W w' ∧ UnV s v w' := by
  refine dunsure_gen h (UnV s) fun v k ks X hO hL hk hE => ?_
  rcases Nat.eq_zero_or_pos k with rfl | hk0
  · obtain ⟨o, cap, rfl⟩ := hO.form
    refine (sort_tiny o 0 cap (by decide) _ X).mono ?_
    rintro e w' ⟨rfl, rfl⟩
    exact ⟨rfl, hE, 0, ks, hL, fun a b _ hb => absurd hb (Nat.not_lt_zero _), hk, .inl ⟨rfl, o, cap, rfl⟩⟩
  · obtain ⟨b, cap, rfl, hb, _, _, hr⟩ := hO.lies hk0
    have hH := holds_kp hr
    have hs := sort_any b cap (dK s ks k) X hH hr.2.2 (by rw [dK_size]; omega)
    rw [dK_size] at hs
    refine hs.mono ?_
    rintro e w' ⟨rfl, d', n, os, hp, hso, hw⟩
    obtain ⟨hsz, hL', hinc, hkc⟩ := perm_lst hp hso hL
    have hg : X.grownBy w' (some b) := by rw [hw]; exact grownBy_kp d'
    have hlt : b < (putRowK encKp 2 (Sort.ahead X n) b 0 d').heap.size := by
      have : (putRowK encKp 2 (Sort.ahead X n) b 0 d').heap.size = X.heap.size := by simp [putRowK, putRow, mapBlock, Sort.ahead]
      rw [this]
      exact hr.2.2
    have hH' : HoldsK encKp 2 w' b 0 d' := by
      rw [hw]
      exact holdsK_grow encKp 2 _ os b 0 d' hlt (holdsK_putRowK encKp 2 (Sort.ahead X n) b 0 (dK s ks k) d' (fun j hj => hH j hj) (by rw [hsz, dK_size]))
    have hR' : RowAt b (k * 2) (kpV (fun j => (d'[j]!).1) (kcI s fun j => (d'[j]!).1)) w' := by
      have key : ∀ j, j < k * 2 → (flatK encKp 2 d')[j]! = kpV (fun j => (d'[j]!).1) (kcI s fun j => (d'[j]!).1) j := fun j hj => by
        rw [get_flatK encKp 2 _ j (by rw [hsz]; exact hj), hkc (j / 2) (by omega), enc_kp _ _ _ (Nat.mod_lt _ (by decide))]
        rfl
      refine ⟨fun j hj => ?_, fun j hj => ?_, ?_⟩
      · have e1 := (hH' j (by rw [size_flatK, hsz]; exact hj)).1
        rw [key j hj, Nat.zero_add] at e1
        exact e1
      · have e2 := (hH' j (by rw [size_flatK, hsz]; exact hj)).2
        rw [Nat.zero_add] at e2
        exact e2
      · exact Nat.lt_of_lt_of_le hr.2.2 hg.size
    exact ⟨rfl, Below.trans hE (below_grown (Below.size hE) hg fun c hc => by cases hc; exact hb), k, _, hL', hinc, hk, .inr ⟨b, cap, rfl, hR'⟩⟩
end Go.Proofs.Ytfaeieaelfjlpaa
namespace Go.Proofs.Ytfaeieaelfjlpaa
open Go.RowKit Go.BigFrame
def Kp0 : Field := { name := "Block", type := 3, offset := 0, embedded := false, tag := "", pkgPath := "", byteOffset := 0 }
def Kp1 : Field := { name := "Writes", type := 3, offset := 1, embedded := false, tag := "", pkgPath := "", byteOffset := 8 }
theorem isAgg3 (w : World) : (isAgg 3).run Try.prog w = .ok false w := by kernel_rfl
theorem equalKp (a b : Int) (w : World) : (Op.equalIn 10000 65 (.agg (row 2 (kpI a b)).toArray) (.agg (row 2 (kpI a b)).toArray)).run Try.prog w = (.ok true w : Result Bool) := by
  rw [run_equalIn_struct w 9999 65 _ _ (by kernel_rfl) (by kernel_rfl)]
  have hf : (Try.prog.fieldsOf 65).toList = [Kp0, Kp1] := by kernel_rfl
  rw [hf]
  have r := eqFields_cons (P := Try.prog) 9999 (row 2 (kpI a b)).toArray (row 2 (kpI a b)).toArray Kp0 _ (.int .i64 a) (.int .i64 a) _ _ w (by decide) (part_one (isAgg3 w) (by decide)) (part_one (isAgg3 w) (by decide)) (run_equalIn_int w 9998 3 .i64 .i64 _ _ Try.underlying3)
    (eqFields_cons 9999 _ _ Kp1 _ (.int .i64 b) (.int .i64 b) _ _ w (by decide) (part_one (isAgg3 w) (by decide)) (part_one (isAgg3 w) (by decide)) (run_equalIn_int w 9998 3 .i64 .i64 _ _ Try.underlying3) (eqFields_nil _ _ _ w))
  rw [r]
  simp
theorem neqKp (a b : Int) (w : World) : (binOp .neq 65 (.agg (row 2 (kpI a b)).toArray) (.agg (row 2 (kpI a b)).toArray)).run Try.prog w = .ok (.bool false) w := by
  rw [run_neq_struct, equalKp]; rfl
end Go.Proofs.Ytfaeieaelfjlpaa
