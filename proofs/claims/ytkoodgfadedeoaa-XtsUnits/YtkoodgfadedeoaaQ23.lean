/-
  How rows of bytes that came in read; when two rows of sixteen bytes are the same. The example that every statement of the cipher asks first: it lives.
-/
import Derived.Test.YtkoodgfadedeoaaQ20
import Derived.ProofKit
import Derived.Stop.BytesEq
import Derived.OpenShut
import Derived.Test.YtkoodgfadedeoaaQ21
import Derived.Deep.CutRange
namespace Go.Proofs.Ytkoodgfadedeoaa
open Go.ChangeShapes Go.WideShapes Go.ChangeAt Go.RowKit
theorem okWide_arr {P : Program} {w : World} {r : Reach} {base : Nat} {t : TypeId} {v : Value} {n : Nat} {e : TypeId} (ht : P.underlying t = some (.array n e)) (h : Value.okWide P w r base t v) : ∃ cs, v = .agg cs ∧ cs.size = P.cellsOf t := by
  unfold Value.okWide at h
  rw [ht] at h
  cases v <;> simp_all
set_option maxRecDepth 100000 in
theorem open_arr {H : Type} {enc : TypeId × Value → H} {W : World} {r : Reach} {b0 base : Nat} {spare : Nat → Bool} {held : Bool} {v : Value} {d : DataW H} {p : List MemPlace} {t : TypeId} {N : Nat} (hu : Try.prog.underlying t = some (.array N 5)) (hc : Try.prog.cellsOf t = N)
    (hv : Value.okWide Try.prog W r b0 t v) (h : DataW.Trod enc Try.prog W base spare held t v d p) : ∃ f : Nat → BitVec 8, v = .agg (row N (yv f)).toArray := by
  obtain ⟨cs, rfl, hsz⟩ := okWide_arr hu hv
  have hc5 : Try.prog.cellsOf 5 = 1 := by kernel_rfl
  obtain ⟨fuel, hf⟩ := h
  obtain ⟨xs, m, _, _, _, hxl, hx⟩ := DataW.trod_array hu hf
  rw [hc] at hsz
  have hall : ∀ i, i < N → ∃ b : BitVec 8, cs[i]? = some (.int .u8 (b.toNat : Int)) := by
    intro i hi
    have h1 := hx i hi
    rw [List.getElem?_eq_getElem (by omega)] at h1
    obtain ⟨n, e0, _, w0⟩ := DataW.trod_int Try.underlying5 h1
    obtain ⟨b, rfl⟩ := of_wf8 w0
    refine ⟨b, ?_⟩
    rw [hc5] at e0
    have h2 : (List.take 1 (List.drop (i * 1) cs.toList))[0]? = some (.int .u8 (b.toNat : Int)) := by
      have : (Value.agg cs).cells.toList = cs.toList := by simp [Value.cells]
      rw [← this, e0]; rfl
    simpa [List.getElem?_take, List.getElem?_drop] using h2
  refine ⟨fun i => if h : i < N then (hall i h).choose else 0#8, ?_⟩
  congr 1
  apply Array.ext'
  apply List.ext_getElem?
  intro i
  by_cases hi : i < N
  · have h1 := (hall i hi).choose_spec
    rw [show (row N (yv fun i => if h : i < N then (hall i h).choose else 0#8)).toArray.toList = row N (yv fun i => if h : i < N then (hall i h).choose else 0#8) from rfl, row_get N _ i hi]
    simp only [yv, dif_pos hi]
    simpa using h1
  · rw [List.getElem?_eq_none (by simpa [hsz] using hi), List.getElem?_eq_none (by simpa [row_length] using hi)]
set_option maxRecDepth 100000 in
theorem open_arr16 {H : Type} {enc : TypeId × Value → H} {W : World} {r : Reach} {b0 base : Nat} {spare : Nat → Bool} {held : Bool} {v : Value} {d : DataW H} {p : List MemPlace}
    (hv : Value.okWide Try.prog W r b0 23 v) (h : DataW.Trod enc Try.prog W base spare held 23 v d p) : ∃ f : Nat → BitVec 8, v = .agg (row 16 (yv f)).toArray := open_arr Try.underlying23 (by kernel_rfl) hv h
set_option maxRecDepth 100000 in
theorem open_arr32 {H : Type} {enc : TypeId × Value → H} {W : World} {r : Reach} {b0 base : Nat} {spare : Nat → Bool} {held : Bool} {v : Value} {d : DataW H} {p : List MemPlace}
    (hv : Value.okWide Try.prog W r b0 53 v) (h : DataW.Trod enc Try.prog W base spare held 53 v d p) : ∃ f : Nat → BitVec 8, v = .agg (row 32 (yv f)).toArray := open_arr Try.underlying53 (by kernel_rfl) hv h
def uL (n : Nat) (f : Nat → BitVec 8) : List UInt8 := (List.range n).map fun j => UInt8.ofBitVec (f j)
theorem uL_row (n : Nat) (f : Nat → BitVec 8) : row n (yv f) = (uL n f).map Extern.Stop.cell := by
  unfold row uL
  rw [List.map_map]
  rfl
/-- whether two rows of sixteen bytes are the same -/
def same16 (f g : Nat → BitVec 8) : Bool := uL 16 f == uL 16 g
theorem same16_iff (f g : Nat → BitVec 8) : same16 f g = true ↔ Eq16 f g := by
  unfold same16 uL
  rw [beq_iff_eq, List.map_inj_left]
  constructor
  · intro h j hj
    have := h j (by simpa using hj)
    injection this
  · intro h j hj
    rw [h j (by simpa using hj)]
theorem eq32 (f g : Nat → BitVec 8) (w : World) : (binOp .eql 23 (.agg (row 16 (yv f)).toArray) (.agg (row 16 (yv g)).toArray)).run Try.prog w = .ok (.bool (same16 f g)) w := by
  rw [run_eql_struct, uL_row, uL_row]
  have h := run_equalIn_bytes (P := Try.prog) w 9998 23 5 16 Try.underlying23 Try.underlying5 Try.sizeOf5 (uL 16 f) (uL 16 g) (by simp [uL]) (by simp [uL])
  rw [h]
  rfl
theorem same16_bool {f g f' g' : Nat → BitVec 8} (h : Eq16 f g ↔ Eq16 f' g') : same16 f g = same16 f' g' := by
  cases h1 : same16 f g with
  | true => exact ((same16_iff _ _).2 (h.1 ((same16_iff _ _).1 h1))).symm
  | false =>
    cases h2 : same16 f' g' with
    | true => rw [(same16_iff _ _).2 (h.2 ((same16_iff _ _).1 h2))] at h1; exact h1.symm
    | false => rfl
theorem enc_same (K f g : Nat → BitVec 8) (r : Nat) (hr : 1 ≤ r) : same16 (encF K bxT twT r f) (encF K bxT twT r g) = same16 f g :=
  same16_bool ⟨fun h => (dec_enc K f r hr).symm.trans ((decF_congr K r h).trans (dec_enc K g r hr)), fun h => encF_congr K r h⟩
theorem dec_same (K f g : Nat → BitVec 8) (r : Nat) (hr : 1 ≤ r) : same16 (decF K ubT twT r f) (decF K ubT twT r g) = same16 f g :=
  same16_bool ⟨fun h => (enc_dec K f r hr).symm.trans ((encF_congr K r h).trans (enc_dec K g r hr)), fun h => decF_congr K r h⟩
end Go.Proofs.Ytkoodgfadedeoaa
namespace Go.Proofs.Ytkoodgfadedeoaa
open Go.RowKit Go.BigFrame
def keyC : Array Value := #[.int .u8 0, .int .u8 1, .int .u8 2, .int .u8 3, .int .u8 4, .int .u8 5, .int .u8 6, .int .u8 7, .int .u8 8, .int .u8 9, .int .u8 10, .int .u8 11, .int .u8 12, .int .u8 13, .int .u8 14, .int .u8 15]
theorem keyC_at (w : World) : KeyAt ⟨w.heap.size, 0, none⟩ 16 sl (w.alloc (.cells keyC 5)) := by
  refine ⟨fun j hj => ?_, by simp⟩
  rw [Addr.add_mid, Nat.zero_add, World.cell?_alloc_new]
  rcases (by omega : j = 0 ∨ j = 1 ∨ j = 2 ∨ j = 3 ∨ j = 4 ∨ j = 5 ∨ j = 6 ∨ j = 7 ∨ j = 8 ∨ j = 9 ∨ j = 10 ∨ j = 11 ∨ j = 12 ∨ j = 13 ∨ j = 14 ∨ j = 15) with rfl | rfl | rfl | rfl | rfl | rfl | rfl | rfl | rfl | rfl | rfl | rfl | rfl | rfl | rfl | rfl <;> rfl
theorem ex_row : (Value.agg (((((((((((((((((row 16 (yv fun _ => 0#8)).set 0 (.int .u8 105)).set 1 (.int .u8 196)).set 2 (.int .u8 224)).set 3 (.int .u8 216)).set 4 (.int .u8 106)).set 5 (.int .u8 123)).set 6 (.int .u8 4)).set 7 (.int .u8 48)).set 8 (.int .u8 216)).set 9 (.int .u8 205)).set 10 (.int .u8 183)).set 11 (.int .u8 128)).set 12 (.int .u8 112)).set 13 (.int .u8 180)).set 14 (.int .u8 197)).set 15 (.int .u8 90)).toArray) = .agg (row 16 (yv ex)).toArray := rfl
theorem plain_row : (Value.agg (((((((((((((((((row 16 (yv fun _ => 0#8)).set 0 (.int .u8 0)).set 1 (.int .u8 17)).set 2 (.int .u8 34)).set 3 (.int .u8 51)).set 4 (.int .u8 68)).set 5 (.int .u8 85)).set 6 (.int .u8 102)).set 7 (.int .u8 119)).set 8 (.int .u8 136)).set 9 (.int .u8 153)).set 10 (.int .u8 170)).set 11 (.int .u8 187)).set 12 (.int .u8 204)).set 13 (.int .u8 221)).set 14 (.int .u8 238)).set 15 (.int .u8 255)).toArray) = .agg (row 16 (yv pl)).toArray := rfl
set_option maxRecDepth 20000 in
set_option maxHeartbeats 1000000 in
theorem alives_core (K E : Nat → BitVec 8) (w : World)
    (hnew : Calls Try.prog 9 #[.slice (some ⟨w.heap.size, 0, none⟩) 16 16] (w.alloc (.cells keyC 5)) fun e w' => e = .returned (.tuple #[.pointer (some ⟨(w.alloc (.cells keyC 5)).heap.size, 0, none⟩), .int .i64 0]) ∧ CipherAt (w.alloc (.cells keyC 5)).heap.size 10 K bxT ubT twT w' ∧ Below (w.alloc (.cells keyC 5)).heap.size (w.alloc (.cells keyC 5)) w')
    (henc : ∀ c X, CipherAt c 10 K bxT ubT twT X → Calls Try.prog 12 #[.pointer (some ⟨c, 0, none⟩), .agg (((((((((((((((((row 16 (yv fun _ => 0#8)).set 0 (.int .u8 0)).set 1 (.int .u8 17)).set 2 (.int .u8 34)).set 3 (.int .u8 51)).set 4 (.int .u8 68)).set 5 (.int .u8 85)).set 6 (.int .u8 102)).set 7 (.int .u8 119)).set 8 (.int .u8 136)).set 9 (.int .u8 153)).set 10 (.int .u8 170)).set 11 (.int .u8 187)).set 12 (.int .u8 204)).set 13 (.int .u8 221)).set 14 (.int .u8 238)).set 15 (.int .u8 255)).toArray] X fun e w' => e = .returned (.agg (row 16 (yv E)).toArray) ∧ Below X.heap.size X w')
    (heq : ∀ X, (binOp .eql 23 (.agg (row 16 (yv E)).toArray) (.agg (((((((((((((((((row 16 (yv fun _ => 0#8)).set 0 (.int .u8 105)).set 1 (.int .u8 196)).set 2 (.int .u8 224)).set 3 (.int .u8 216)).set 4 (.int .u8 106)).set 5 (.int .u8 123)).set 6 (.int .u8 4)).set 7 (.int .u8 48)).set 8 (.int .u8 216)).set 9 (.int .u8 205)).set 10 (.int .u8 183)).set 11 (.int .u8 128)).set 12 (.int .u8 112)).set 13 (.int .u8 180)).set 14 (.int .u8 197)).set 15 (.int .u8 90)).toArray)).run Try.prog X = .ok (.bool true) X) :
    Calls Try.prog 11 #[] w fun e w' => e = .returned (.bool true) ∧ Below w.heap.size w w' := by
  replace hnew := hideit hnew
  replace henc := hideit henc
  go_enter Try.func11, Try.ntmps11
  go_upto_region 5 with (first | (go_at_call 9; refine hnew.out.mono ?_; rintro e w2 ⟨rfl, h2, h3⟩; have H2 := hideit h2; have H3 := hideit h3; clear h2 h3))
  have hsz : (w.alloc (.cells keyC 5)).heap.size = w.heap.size + 1 := by simp
  rw [hsz] at H2 H3
  have HB0 : Below w.heap.size w w2 := Below.trans ((Below.refl _ _).alloc (Nat.le_refl _) _) (Below.mono H3.out (Nat.le_succ _))
  replace HB0 := hideit HB0
  clear hnew H3 hsz
  have hz := store_Y16
  go_upto_region 6 with (first | (go_at_call 12; refine (henc.out (w.heap.size + 1) _ H2.out).mono ?_; rintro e w3 ⟨rfl, hw3⟩; have H4 := hideit (CipherAt.carry H2.out hw3); have HB1 := hideit (Below.trans HB0.out (Below.mono hw3 (Nat.le_of_lt (Nat.lt_of_succ_lt H2.out.2.2)))); clear hw3; obtain ⟨d, hd⟩ : ∃ d, d = w3.heap.size := ⟨_, rfl⟩; have HN : RowAt d 16 (yv fun _ => 0#8) (w3.alloc (.cells (row 16 (yv fun _ => 0#8)).toArray 23)) := (by rw [hd]; exact RowAt.new w3 16 (yv fun _ => 0#8) 23); replace HN := hideit HN) | (rw [← hd]; refine wpList_store_mid rfl 23 (.tmp 4) (.tmp 19) rfl _ 0 (row 16 (yv (E))).toArray rfl rfl (by rw [row_size]; exact HN.out.there) (by rw [row_size]; exact info32) (row_one fun _ _ => rfl) ?_))
  have HR := hideit (HN.out.cells (g' := yv (E)))
  have HC : CipherAt (w.heap.size + 1) 10 K bxT ubT twT ((w3.alloc (.cells (row 16 (yv fun _ => 0#8)).toArray 23)).setCells d 0 (row 16 (yv (E)))) := RowAt.cellsOther (RowAt.alloc H4.out _) (by have := H4.out.2.2; omega) _ _
  replace HC := hideit HC
  have HB : Below w.heap.size w ((w3.alloc (.cells (row 16 (yv fun _ => 0#8)).toArray 23)).setCells d 0 (row 16 (yv (E)))) := below_setCells _ (by have := H4.out.2.2; omega) _ _ _ (HB1.out.alloc (by have := H4.out.2.2; omega) _)
  replace HB := hideit HB
  clear H2 H4 HB0 HB1 HN hd
  generalize (w3.alloc (.cells (row 16 (yv fun _ => 0#8)).toArray 23)).setCells d 0 (row 16 (yv (E))) = Y at *
  simp only [Act.put]
  go_wp2_with (first | (refine wpList_load_mid rfl 23 (.tmp 4) rfl _ 0 rfl (row 16 (yv (E))) _ HR.out.range Try.underlying23 rfl (by rw [row_length]; exact info32) ?_) | (go_at_call 17; refine (rounds_any _ 10 _ _ _ _ _ HC.out).mono ?_; rintro e w4 ⟨rfl, rfl⟩))
  go_ret
  exact ⟨rfl, HB.out⟩
theorem alives_any (w : World) : Calls Try.prog 11 #[] w fun e w' => e = .returned (.bool true) ∧ Below w.heap.size w w' :=
  alives_core (schedK 4 sl) (encF (schedK 4 sl) bxT twT 10 pl) w (new4_any ⟨w.heap.size, 0, none⟩ 16 sl _ (keyC_at w) (Nat.le_refl _))
    (fun c X h => by rw [plain_row]; exact enc_any c 10 (schedK 4 sl) bxT ubT twT pl (by omega) (by omega) X h)
    (fun X => by rw [ex_row, eq32, (same16_iff _ _).2 enc_lives])
end Go.Proofs.Ytkoodgfadedeoaa
