/-
  When two arrays of integers are the same; bytes as strings. lives: what must come of every program, comes. How arrays of bytes and of words that came in read.
-/
import Derived.Test.YtfpfgbhdehbggaaGreatDoorQb2
import Derived.Laws.StructEq
import Derived.Laws.BytesString
import Derived.Test.YtfpfgbhdehbggaaGreatDoorQb6
import Derived.Lib.SlBytesConst
import Derived.ProofKit
import Derived.OpenShut
namespace Go.Proofs.YtfpfgbhdehbggaaGreatDoor
open Go.RowKit Go.BigFrame
section
variable {P : Program}
end
def bstr (n : Nat) (z : Nat → Int) : ByteArray := ((List.range n).map z).foldl (fun r n => r.push (UInt8.ofNat n.toNat)) ByteArray.empty
theorem bstr_congr {n : Nat} {f g : Nat → Int} (h : ∀ j, j < n → f j = g j) : bstr n f = bstr n g := by
  unfold bstr
  rw [List.map_congr_left fun j hj => h j (by simpa using hj)]
end Go.Proofs.YtfpfgbhdehbggaaGreatDoor
namespace Go.Proofs.YtfpfgbhdehbggaaGreatDoor
set_option maxRecDepth 20000
open Go.RowKit Go.BigFrame
theorem lie_new (w : World) (n : Nat) (C : Array Value) (t : TypeId) (fz : Nat × Nat) (b : Nat → BitVec 8) (h : ∀ j, j < n → C[j]? = some (yv b j)) : LieAt ⟨w.heap.size, 0, none⟩ n (yv b) (w.alloc (.cells C t fz)) :=
  ⟨fun j hj => by
    have h1 : (w.alloc (.cells C t fz)).cell? ⟨w.heap.size, j, none⟩ = C[j]? := by
      have h2 : (w.alloc (.cells C t fz)).heap[w.heap.size]? = some (.cells C t fz) := by
        show (w.heap.push (.cells C t fz))[w.heap.size]? = _
        simp
      unfold World.cell?
      rw [h2]
      rfl
    unfold Addr.add
    by_cases e : j = 0
    · subst e
      rw [if_pos rfl, h1]
      exact h 0 hj
    · rw [if_neg e]
      show (w.alloc (.cells C t fz)).cell? ⟨w.heap.size, 0 + j, none⟩ = _
      rw [Nat.zero_add, h1]
      exact h j hj, by simp⟩
theorem mark_const (w : World) (C : Array Value) (n : Nat) : (convert 25 25 (.slice (some ⟨w.heap.size, 0, none⟩) n n)).run Tryz.prog (w.alloc (.cells C 5)) = .ok (.slice (some ⟨w.heap.size, 0, none⟩) n n) (w.alloc (.cells C 5 (C.size, C.size + 1))) :=
  Go.Lib.run_convert_bytes_const w 25 5 C n n Tryz.underlying25 Tryz.underlying5
end Go.Proofs.YtfpfgbhdehbggaaGreatDoor
namespace Go.Proofs.YtfpfgbhdehbggaaGreatDoor
set_option maxRecDepth 20000
open Go.ChangeShapes Go.WideShapes Go.ChangeAt Go.RowKit
theorem of_wf8 {n : Int} (h : (Lit.int .u8 n).wf = true) : ∃ a : BitVec 8, n = (a.toNat : Int) := by
  have hb := bounds_u8 h
  exact ⟨BitVec.ofNat 8 n.toNat, by rw [BitVec.toNat_ofNat]; omega⟩
theorem okWide_arr {P : Program} {w : World} {r : Reach} {base : Nat} {t : TypeId} {v : Value} {n : Nat} {e : TypeId} (ht : P.underlying t = some (.array n e)) (h : Value.okWide P w r base t v) : ∃ cs, v = .agg cs ∧ cs.size = P.cellsOf t := by
  unfold Value.okWide at h
  rw [ht] at h
  cases v <;> simp_all
theorem open_arr {H : Type} {enc : TypeId × Value → H} {W : World} {r : Reach} {b0 base : Nat} {spare : Nat → Bool} {held : Bool} {v : Value} {d : DataW H} {p : List MemPlace} {t : TypeId} {N : Nat} (hu : Tryz.prog.underlying t = some (.array N 5)) (hc : Tryz.prog.cellsOf t = N)
    (hv : Value.okWide Tryz.prog W r b0 t v) (h : DataW.Trod enc Tryz.prog W base spare held t v d p) : ∃ f : Nat → BitVec 8, v = .agg (row N (yv f)).toArray := by
  obtain ⟨cs, rfl, hsz⟩ := okWide_arr hu hv
  have hc5 : Tryz.prog.cellsOf 5 = 1 := by kernel_rfl
  obtain ⟨fuel, hf⟩ := h
  obtain ⟨xs, m, _, _, _, hxl, hx⟩ := DataW.trod_array hu hf
  rw [hc] at hsz
  have hall : ∀ i, i < N → ∃ b : BitVec 8, cs[i]? = some (.int .u8 (b.toNat : Int)) := by
    intro i hi
    have h1 := hx i hi
    rw [List.getElem?_eq_getElem (by omega)] at h1
    obtain ⟨n, e0, _, w0⟩ := DataW.trod_int Tryz.underlying5 h1
    obtain ⟨b, rfl⟩ := of_wf8 w0
    refine ⟨b, ?_⟩
    rw [hc5] at e0
    have h2 : (List.take 1 (List.drop (i * 1) cs.toList))[0]? = some (.int .u8 (b.toNat : Int)) := by
      have : (Value.agg cs).cells.toList = cs.toList := by simp [Value.cells]
      rw [← this, e0]; rfl
    simpa [List.getElem?_take, List.getElem?_drop] using h2
  refine ⟨fun i => if h : i < N then (hall i h).choose else 0#8, ?_⟩
  congr 1
  apply Array.ext'
  apply List.ext_getElem?
  intro i
  by_cases hi : i < N
  · have h1 := (hall i hi).choose_spec
    rw [show (row N (yv fun i => if h : i < N then (hall i h).choose else 0#8)).toArray.toList = row N (yv fun i => if h : i < N then (hall i h).choose else 0#8) from rfl, row_get N _ i hi]
    simp only [yv, dif_pos hi]
    simpa using h1
  · rw [List.getElem?_eq_none (by simpa [hsz] using hi), List.getElem?_eq_none (by simpa [row_length] using hi)]
theorem open_arru8_64 {H : Type} {enc : TypeId × Value → H} {W : World} {r : Reach} {b0 base : Nat} {spare : Nat → Bool} {held : Bool} {v : Value} {d : DataW H} {p : List MemPlace}
    (hv : Value.okWide Tryz.prog W r b0 26 v) (h : DataW.Trod enc Tryz.prog W base spare held 26 v d p) : ∃ f : Nat → BitVec 8, v = .agg (row 64 (yv f)).toArray := open_arr Tryz.underlying26 (by kernel_rfl) hv h
end Go.Proofs.YtfpfgbhdehbggaaGreatDoor
