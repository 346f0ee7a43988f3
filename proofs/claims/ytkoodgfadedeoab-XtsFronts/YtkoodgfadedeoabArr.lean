/-
  How rows of bytes that came in read; when two rows of sixteen bytes are the same.
-/
import Derived.Test.YtkoodgfadedeoabCols
import Derived.ProofKit
import Derived.Stop.BytesEq
import Derived.OpenShut
namespace Go.Proofs.Ytkoodgfadedeoab
open Go.ChangeShapes Go.WideShapes Go.ChangeAt Go.RowKit
theorem okWide_arr {P : Program} {w : World} {r : Reach} {base : Nat} {t : TypeId} {v : Value} {n : Nat} {e : TypeId} (ht : P.underlying t = some (.array n e)) (h : Value.okWide P w r base t v) : ∃ cs, v = .agg cs ∧ cs.size = P.cellsOf t := by
  unfold Value.okWide at h
  rw [ht] at h
  cases v <;> simp_all
set_option maxRecDepth 100000 in
theorem open_arr {H : Type} {enc : TypeId × Value → H} {W : World} {r : Reach} {b0 base : Nat} {spare : Nat → Bool} {held : Bool} {v : Value} {d : DataW H} {p : List MemPlace} {t : TypeId} {N : Nat} (hu : Try.prog.underlying t = some (.array N 5)) (hc : Try.prog.cellsOf t = N)
    (hv : Value.okWide Try.prog W r b0 t v) (h : DataW.Trod enc Try.prog W base spare held t v d p) : ∃ f : Nat → BitVec 8, v = .agg (row N (yv f)).toArray := by
  obtain ⟨cs, rfl, hsz⟩ := okWide_arr hu hv
  have hc5 : Try.prog.cellsOf 5 = 1 := by kernel_rfl
  obtain ⟨fuel, hf⟩ := h
  obtain ⟨xs, m, _, _, _, hxl, hx⟩ := DataW.trod_array hu hf
  rw [hc] at hsz
  have hall : ∀ i, i < N → ∃ b : BitVec 8, cs[i]? = some (.int .u8 (b.toNat : Int)) := by
    intro i hi
    have h1 := hx i hi
    rw [List.getElem?_eq_getElem (by omega)] at h1
    obtain ⟨n, e0, _, w0⟩ := DataW.trod_int Try.underlying5 h1
    obtain ⟨b, rfl⟩ := of_wf8 w0
    refine ⟨b, ?_⟩
    rw [hc5] at e0
    have h2 : (List.take 1 (List.drop (i * 1) cs.toList))[0]? = some (.int .u8 (b.toNat : Int)) := by
      have : (Value.agg cs).cells.toList = cs.toList := by simp [Value.cells]
      rw [← this, e0]; rfl
    simpa [List.getElem?_take, List.getElem?_drop] using h2
  refine ⟨fun i => if h : i < N then (hall i h).choose else 0#8, ?_⟩
  congr 1
  apply Array.ext'
  apply List.ext_getElem?
  intro i
  by_cases hi : i < N
  · have h1 := (hall i hi).choose_spec
    rw [show (row N (yv fun i => if h : i < N then (hall i h).choose else 0#8)).toArray.toList = row N (yv fun i => if h : i < N then (hall i h).choose else 0#8) from rfl, row_get N _ i hi]
    simp only [yv, dif_pos hi]
    simpa using h1
  · rw [List.getElem?_eq_none (by simpa [hsz] using hi), List.getElem?_eq_none (by simpa [row_length] using hi)]
set_option maxRecDepth 100000 in
theorem open_arr16 {H : Type} {enc : TypeId × Value → H} {W : World} {r : Reach} {b0 base : Nat} {spare : Nat → Bool} {held : Bool} {v : Value} {d : DataW H} {p : List MemPlace}
    (hv : Value.okWide Try.prog W r b0 50 v) (h : DataW.Trod enc Try.prog W base spare held 50 v d p) : ∃ f : Nat → BitVec 8, v = .agg (row 16 (yv f)).toArray := open_arr Try.underlying50 (by kernel_rfl) hv h
set_option maxRecDepth 100000 in
theorem open_arr32 {H : Type} {enc : TypeId × Value → H} {W : World} {r : Reach} {b0 base : Nat} {spare : Nat → Bool} {held : Bool} {v : Value} {d : DataW H} {p : List MemPlace}
    (hv : Value.okWide Try.prog W r b0 22 v) (h : DataW.Trod enc Try.prog W base spare held 22 v d p) : ∃ f : Nat → BitVec 8, v = .agg (row 32 (yv f)).toArray := open_arr Try.underlying22 (by kernel_rfl) hv h
def uL (n : Nat) (f : Nat → BitVec 8) : List UInt8 := (List.range n).map fun j => UInt8.ofBitVec (f j)
theorem uL_row (n : Nat) (f : Nat → BitVec 8) : row n (yv f) = (uL n f).map Extern.Stop.cell := by
  unfold row uL
  rw [List.map_map]
  rfl
/-- whether two rows of sixteen bytes are the same -/
def same16 (f g : Nat → BitVec 8) : Bool := uL 16 f == uL 16 g
theorem same16_iff (f g : Nat → BitVec 8) : same16 f g = true ↔ Eq16 f g := by
  unfold same16 uL
  rw [beq_iff_eq, List.map_inj_left]
  constructor
  · intro h j hj
    have := h j (by simpa using hj)
    injection this
  · intro h j hj
    rw [h j (by simpa using hj)]
theorem eq32 (f g : Nat → BitVec 8) (w : World) : (binOp .eql 50 (.agg (row 16 (yv f)).toArray) (.agg (row 16 (yv g)).toArray)).run Try.prog w = .ok (.bool (same16 f g)) w := by
  rw [run_eql_struct, uL_row, uL_row]
  have h := run_equalIn_bytes (P := Try.prog) w 9998 50 5 16 Try.underlying50 Try.underlying5 Try.sizeOf5 (uL 16 f) (uL 16 g) (by simp [uL]) (by simp [uL])
  rw [h]
  rfl
theorem same16_bool {f g f' g' : Nat → BitVec 8} (h : Eq16 f g ↔ Eq16 f' g') : same16 f g = same16 f' g' := by
  cases h1 : same16 f g with
  | true => exact ((same16_iff _ _).2 (h.1 ((same16_iff _ _).1 h1))).symm
  | false =>
    cases h2 : same16 f' g' with
    | true => rw [(same16_iff _ _).2 (h.2 ((same16_iff _ _).1 h2))] at h1; exact h1.symm
    | false => rfl
theorem enc_same (K f g : Nat → BitVec 8) (r : Nat) (hr : 1 ≤ r) : same16 (encF K bxT twT r f) (encF K bxT twT r g) = same16 f g :=
  same16_bool ⟨fun h => (dec_enc K f r hr).symm.trans ((decF_congr K r h).trans (dec_enc K g r hr)), fun h => encF_congr K r h⟩
theorem dec_same (K f g : Nat → BitVec 8) (r : Nat) (hr : 1 ≤ r) : same16 (decF K ubT twT r f) (decF K ubT twT r g) = same16 f g :=
  same16_bool ⟨fun h => (enc_dec K f r hr).symm.trans ((encF_congr K r h).trans (enc_dec K g r hr)), fun h => decF_congr K r h⟩
end Go.Proofs.Ytkoodgfadedeoab
