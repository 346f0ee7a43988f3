/-
  Bytes as strings; the first words of a key.
-/
import Derived.Test.YtkoodgfadedeoabALives
import Derived.Laws.BytesString
namespace Go.Proofs.Ytkoodgfadedeoab
open Go.RowKit Go.BigFrame
/-- so many bytes, as a string -/
def bstr (n : Nat) (f : Nat → BitVec 8) : ByteArray := ((List.range n).map fun j => ((f j).toNat : Int)).foldl (fun r n => r.push (UInt8.ofNat n.toNat)) ByteArray.empty
theorem bstr_congr {n : Nat} {f g : Nat → BitVec 8} (h : ∀ j, j < n → f j = g j) : bstr n f = bstr n g := by
  unfold bstr
  rw [List.map_congr_left fun j hj => by rw [h j (by simpa using hj)]]
theorem run_conv {b off n cap : Nat} {f : Nat → BitVec 8} {w : World} (h : w.rangeAt b off (row n (yv f))) : (convert 24 9 (.slice (some ⟨b, off, none⟩) n cap)).run Try.prog w = .ok (.string (bstr n f)) w := by
  rw [run_convert_bytes_string w 24 9 5 _ _ _ Try.underlying24 Try.underlying5 Try.underlying9]
  refine run_bytesToString w _ n cap ((List.range n).map fun j => ((f j).toNat : Int)) ?_
  have h1 := run_loadCells_list (P := Try.prog) w ⟨b, off, none⟩ (row n (yv f)) (fun j v hv => by rw [Addr.add_mid]; exact h j v hv)
  rw [row_length] at h1
  rw [h1, List.map_map]
  rfl
theorem quiet_conv {W : World} {K : Act → Prop} {op : Oper} {a : Act} (x : Operand) (b off n cap : Nat) (g : Nat → BitVec 8) (ho : op.op = .convert 24 9 x) (hx : a.eval x = .slice (some ⟨b, off, none⟩) n cap) (hc : ∀ w', Ext W w' → w'.rangeAt b off (row n (yv g)))
    (h : K (a.put op.dst (.string (bstr n g)))) : op.quiet Try.prog a (fun w' => ∃ k : Kept (Ext W), w' = k.w) K :=
  ⟨_, fun w hw => by
    obtain ⟨k, rfl⟩ := hw
    unfold Oper.quietAt execOp
    simp only [ho, hx, Sem.run_bind, Sem.run_pure, Result.andThen_ok, run_conv (hc _ k.ok)]
    exact ⟨rfl, rfl⟩, h⟩
theorem RowAt.sub {b n : Nat} {g : Nat → BitVec 8} {w : World} (h : RowAt b n (yv g) w) (off m : Nat) (hm : off + m ≤ n) : w.rangeAt b off (row m (yv fun j => g (off + j))) := fun j v hv => by
  obtain ⟨hj, rfl⟩ := row_some hv
  exact h.1 (off + j) (by omega)
theorem words_low (k : Nat) (bx tw key : Nat → BitVec 8) (j : Nat) (hj : j < 4 * k) : ∀ m, (wordK k bx tw key m).1 j = key j
  | 0 => by
    show (if j < 4 * k then key j else 0#8) = key j
    rw [if_pos hj]
  | m + 1 => by
    rw [wordK_s]
    show partS _ _ _ _ _ j = _
    rw [partS_low _ _ _ _ _ _ (by omega)]
    exact words_low k bx tw key j hj m
theorem sched_low (k : Nat) (key : Nat → BitVec 8) (j : Nat) (hj : j < 4 * k) : schedK k key j = key j := by
  unfold schedK keyP
  rw [if_pos (by omega)]
  exact words_low k bxT twT key j hj _
end Go.Proofs.Ytkoodgfadedeoab
