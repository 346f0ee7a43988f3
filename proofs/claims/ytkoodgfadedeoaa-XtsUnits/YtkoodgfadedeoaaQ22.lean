/-
  The example that every statement of the cipher asks first: it lives. Bytes as strings; the first words of a key.
-/
import Derived.Test.YtkoodgfadedeoaaQ19
import Derived.Test.YtkoodgfadedeoaaQ21
import Derived.Deep.CutRange
import Derived.Laws.BytesString
namespace Go.Proofs.Ytkoodgfadedeoaa
open Go.RowKit Go.BigFrame
def keyC : Array Value := #[.int .u8 0, .int .u8 1, .int .u8 2, .int .u8 3, .int .u8 4, .int .u8 5, .int .u8 6, .int .u8 7, .int .u8 8, .int .u8 9, .int .u8 10, .int .u8 11, .int .u8 12, .int .u8 13, .int .u8 14, .int .u8 15]
theorem keyC_at (w : World) : KeyAt ⟨w.heap.size, 0, none⟩ 16 sl (w.alloc (.cells keyC 5)) := by
  refine ⟨fun j hj => ?_, by simp⟩
  rw [Addr.add_mid, Nat.zero_add, World.cell?_alloc_new]
  rcases (by omega : j = 0 ∨ j = 1 ∨ j = 2 ∨ j = 3 ∨ j = 4 ∨ j = 5 ∨ j = 6 ∨ j = 7 ∨ j = 8 ∨ j = 9 ∨ j = 10 ∨ j = 11 ∨ j = 12 ∨ j = 13 ∨ j = 14 ∨ j = 15) with rfl | rfl | rfl | rfl | rfl | rfl | rfl | rfl | rfl | rfl | rfl | rfl | rfl | rfl | rfl | rfl <;> rfl
theorem ex_row : (Value.agg (((((((((((((((((row 16 (yv fun _ => 0#8)).set 0 (.int .u8 105)).set 1 (.int .u8 196)).set 2 (.int .u8 224)).set 3 (.int .u8 216)).set 4 (.int .u8 106)).set 5 (.int .u8 123)).set 6 (.int .u8 4)).set 7 (.int .u8 48)).set 8 (.int .u8 216)).set 9 (.int .u8 205)).set 10 (.int .u8 183)).set 11 (.int .u8 128)).set 12 (.int .u8 112)).set 13 (.int .u8 180)).set 14 (.int .u8 197)).set 15 (.int .u8 90)).toArray) = .agg (row 16 (yv ex)).toArray := rfl
theorem plain_row : (Value.agg (((((((((((((((((row 16 (yv fun _ => 0#8)).set 0 (.int .u8 0)).set 1 (.int .u8 17)).set 2 (.int .u8 34)).set 3 (.int .u8 51)).set 4 (.int .u8 68)).set 5 (.int .u8 85)).set 6 (.int .u8 102)).set 7 (.int .u8 119)).set 8 (.int .u8 136)).set 9 (.int .u8 153)).set 10 (.int .u8 170)).set 11 (.int .u8 187)).set 12 (.int .u8 204)).set 13 (.int .u8 221)).set 14 (.int .u8 238)).set 15 (.int .u8 255)).toArray) = .agg (row 16 (yv pl)).toArray := rfl
set_option maxRecDepth 20000 in
set_option maxHeartbeats 1000000 in
theorem alives_core (K E : Nat → BitVec 8) (w : World)
    (hnew : Calls Try.prog 9 #[.slice (some ⟨w.heap.size, 0, none⟩) 16 16] (w.alloc (.cells keyC 5)) fun e w' => e = .returned (.tuple #[.pointer (some ⟨(w.alloc (.cells keyC 5)).heap.size, 0, none⟩), .int .i64 0]) ∧ CipherAt (w.alloc (.cells keyC 5)).heap.size 10 K bxT ubT twT w' ∧ Below (w.alloc (.cells keyC 5)).heap.size (w.alloc (.cells keyC 5)) w')
    (henc : ∀ c X, CipherAt c 10 K bxT ubT twT X → Calls Try.prog 12 #[.pointer (some ⟨c, 0, none⟩), .agg (((((((((((((((((row 16 (yv fun _ => 0#8)).set 0 (.int .u8 0)).set 1 (.int .u8 17)).set 2 (.int .u8 34)).set 3 (.int .u8 51)).set 4 (.int .u8 68)).set 5 (.int .u8 85)).set 6 (.int .u8 102)).set 7 (.int .u8 119)).set 8 (.int .u8 136)).set 9 (.int .u8 153)).set 10 (.int .u8 170)).set 11 (.int .u8 187)).set 12 (.int .u8 204)).set 13 (.int .u8 221)).set 14 (.int .u8 238)).set 15 (.int .u8 255)).toArray] X fun e w' => e = .returned (.agg (row 16 (yv E)).toArray) ∧ Below X.heap.size X w')
    (heq : ∀ X, (binOp .eql 23 (.agg (row 16 (yv E)).toArray) (.agg (((((((((((((((((row 16 (yv fun _ => 0#8)).set 0 (.int .u8 105)).set 1 (.int .u8 196)).set 2 (.int .u8 224)).set 3 (.int .u8 216)).set 4 (.int .u8 106)).set 5 (.int .u8 123)).set 6 (.int .u8 4)).set 7 (.int .u8 48)).set 8 (.int .u8 216)).set 9 (.int .u8 205)).set 10 (.int .u8 183)).set 11 (.int .u8 128)).set 12 (.int .u8 112)).set 13 (.int .u8 180)).set 14 (.int .u8 197)).set 15 (.int .u8 90)).toArray)).run Try.prog X = .ok (.bool true) X) :
    Calls Try.prog 11 #[] w fun e w' => e = .returned (.bool true) ∧ Below w.heap.size w w' := by
  replace hnew := hideit hnew
  replace henc := hideit henc
  go_enter Try.func11, Try.ntmps11
  go_upto_region 5 with (first | (go_at_call 9; refine hnew.out.mono ?_; rintro e w2 ⟨rfl, h2, h3⟩; have H2 := hideit h2; have H3 := hideit h3; clear h2 h3))
  have hsz : (w.alloc (.cells keyC 5)).heap.size = w.heap.size + 1 := by simp
  rw [hsz] at H2 H3
  have HB0 : Below w.heap.size w w2 := Below.trans ((Below.refl _ _).alloc (Nat.le_refl _) _) (Below.mono H3.out (Nat.le_succ _))
  replace HB0 := hideit HB0
  clear hnew H3 hsz
  have hz := store_Y16
  go_upto_region 6 with (first | (go_at_call 12; refine (henc.out (w.heap.size + 1) _ H2.out).mono ?_; rintro e w3 ⟨rfl, hw3⟩; have H4 := hideit (CipherAt.carry H2.out hw3); have HB1 := hideit (Below.trans HB0.out (Below.mono hw3 (Nat.le_of_lt (Nat.lt_of_succ_lt H2.out.2.2)))); clear hw3; obtain ⟨d, hd⟩ : ∃ d, d = w3.heap.size := ⟨_, rfl⟩; have HN : RowAt d 16 (yv fun _ => 0#8) (w3.alloc (.cells (row 16 (yv fun _ => 0#8)).toArray 23)) := (by rw [hd]; exact RowAt.new w3 16 (yv fun _ => 0#8) 23); replace HN := hideit HN) | (rw [← hd]; refine wpList_store_mid rfl 23 (.tmp 4) (.tmp 19) rfl _ 0 (row 16 (yv (E))).toArray rfl rfl (by rw [row_size]; exact HN.out.there) (by rw [row_size]; exact info32) (row_one fun _ _ => rfl) ?_))
  have HR := hideit (HN.out.cells (g' := yv (E)))
  have HC : CipherAt (w.heap.size + 1) 10 K bxT ubT twT ((w3.alloc (.cells (row 16 (yv fun _ => 0#8)).toArray 23)).setCells d 0 (row 16 (yv (E)))) := RowAt.cellsOther (RowAt.alloc H4.out _) (by have := H4.out.2.2; omega) _ _
  replace HC := hideit HC
  have HB : Below w.heap.size w ((w3.alloc (.cells (row 16 (yv fun _ => 0#8)).toArray 23)).setCells d 0 (row 16 (yv (E)))) := below_setCells _ (by have := H4.out.2.2; omega) _ _ _ (HB1.out.alloc (by have := H4.out.2.2; omega) _)
  replace HB := hideit HB
  clear H2 H4 HB0 HB1 HN hd
  generalize (w3.alloc (.cells (row 16 (yv fun _ => 0#8)).toArray 23)).setCells d 0 (row 16 (yv (E))) = Y at *
  simp only [Act.put]
  go_wp2_with (first | (refine wpList_load_mid rfl 23 (.tmp 4) rfl _ 0 rfl (row 16 (yv (E))) _ HR.out.range Try.underlying23 rfl (by rw [row_length]; exact info32) ?_) | (go_at_call 17; refine (rounds_any _ 10 _ _ _ _ _ HC.out).mono ?_; rintro e w4 ⟨rfl, rfl⟩))
  go_ret
  exact ⟨rfl, HB.out⟩
theorem alives_any (w : World) : Calls Try.prog 11 #[] w fun e w' => e = .returned (.bool true) ∧ Below w.heap.size w w' :=
  alives_core (schedK 4 sl) (encF (schedK 4 sl) bxT twT 10 pl) w (new4_any ⟨w.heap.size, 0, none⟩ 16 sl _ (keyC_at w) (Nat.le_refl _))
    (fun c X h => by rw [plain_row]; exact enc_any c 10 (schedK 4 sl) bxT ubT twT pl (by omega) (by omega) X h)
    (fun X => by rw [ex_row, eq32, (same16_iff _ _).2 enc_lives])
end Go.Proofs.Ytkoodgfadedeoaa
namespace Go.Proofs.Ytkoodgfadedeoaa
open Go.RowKit Go.BigFrame
/-- so many bytes, as a string -/
def bstr (n : Nat) (f : Nat → BitVec 8) : ByteArray := ((List.range n).map fun j => ((f j).toNat : Int)).foldl (fun r n => r.push (UInt8.ofNat n.toNat)) ByteArray.empty
theorem bstr_congr {n : Nat} {f g : Nat → BitVec 8} (h : ∀ j, j < n → f j = g j) : bstr n f = bstr n g := by
  unfold bstr
  rw [List.map_congr_left fun j hj => by rw [h j (by simpa using hj)]]
theorem run_conv {b off n cap : Nat} {f : Nat → BitVec 8} {w : World} (h : w.rangeAt b off (row n (yv f))) : (convert 22 9 (.slice (some ⟨b, off, none⟩) n cap)).run Try.prog w = .ok (.string (bstr n f)) w := by
  rw [run_convert_bytes_string w 22 9 5 _ _ _ Try.underlying22 Try.underlying5 Try.underlying9]
  refine run_bytesToString w _ n cap ((List.range n).map fun j => ((f j).toNat : Int)) ?_
  have h1 := run_loadCells_list (P := Try.prog) w ⟨b, off, none⟩ (row n (yv f)) (fun j v hv => by rw [Addr.add_mid]; exact h j v hv)
  rw [row_length] at h1
  rw [h1, List.map_map]
  rfl
theorem quiet_conv {W : World} {K : Act → Prop} {op : Oper} {a : Act} (x : Operand) (b off n cap : Nat) (g : Nat → BitVec 8) (ho : op.op = .convert 22 9 x) (hx : a.eval x = .slice (some ⟨b, off, none⟩) n cap) (hc : ∀ w', Ext W w' → w'.rangeAt b off (row n (yv g)))
    (h : K (a.put op.dst (.string (bstr n g)))) : op.quiet Try.prog a (fun w' => ∃ k : Kept (Ext W), w' = k.w) K :=
  ⟨_, fun w hw => by
    obtain ⟨k, rfl⟩ := hw
    unfold Oper.quietAt execOp
    simp only [ho, hx, Sem.run_bind, Sem.run_pure, Result.andThen_ok, run_conv (hc _ k.ok)]
    exact ⟨rfl, rfl⟩, h⟩
theorem RowAt.sub {b n : Nat} {g : Nat → BitVec 8} {w : World} (h : RowAt b n (yv g) w) (off m : Nat) (hm : off + m ≤ n) : w.rangeAt b off (row m (yv fun j => g (off + j))) := fun j v hv => by
  obtain ⟨hj, rfl⟩ := row_some hv
  exact h.1 (off + j) (by omega)
theorem words_low (k : Nat) (bx tw key : Nat → BitVec 8) (j : Nat) (hj : j < 4 * k) : ∀ m, (wordK k bx tw key m).1 j = key j
  | 0 => by
    show (if j < 4 * k then key j else 0#8) = key j
    rw [if_pos hj]
  | m + 1 => by
    rw [wordK_s]
    show partS _ _ _ _ _ j = _
    rw [partS_low _ _ _ _ _ _ (by omega)]
    exact words_low k bx tw key j hj m
theorem sched_low (k : Nat) (key : Nat → BitVec 8) (j : Nat) (hj : j < 4 * k) : schedK k key j = key j := by
  unfold schedK keyP
  rw [if_pos (by omega)]
  exact words_low k bxT twT key j hj _
end Go.Proofs.Ytkoodgfadedeoaa
