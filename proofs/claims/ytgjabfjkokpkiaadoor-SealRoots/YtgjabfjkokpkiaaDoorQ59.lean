/-
  How headers that came in read.
-/
import Derived.Test.YtgjabfjkokpkiaaDoorQ12
import Derived.Test.YtgjabfjkokpkiaaDoorQ45
import Derived.Test.YtgjabfjkokpkiaaDoorQ47
import Derived.Test.YtgjabfjkokpkiaaDoorQ11
import Derived.Deep.Slices
namespace Go.Proofs.YtgjabfjkokpkiaaDoor
set_option maxRecDepth 100000
open Go.ChangeShapes Go.WideShapes Go.ChangeAt Go.RowKit
theorem arr_cells {H : Type} {enc : TypeId × Value → H} {W : World} {base : Nat} {spare : Nat → Bool} {held : Bool} {n : Nat} {cs : List Value} {x : DataW H × List MemPlace} {t : TypeId} {N : Nat} (hu : Tryd.prog.underlying t = some (.array N 5)) (h : DataW.trod enc Tryd.prog W base spare held n t cs = some x) :
    ∃ f : Nat → BitVec 8, ∀ i, i < N → cs[i]? = some (.int .u8 ((f i).toNat : Int)) := by
  have hc5 : Tryd.prog.cellsOf 5 = 1 := by kernel_rfl
  obtain ⟨xs, m, _, _, _, hxl, hx⟩ := DataW.trod_array hu h
  have hall : ∀ i, i < N → ∃ b : BitVec 8, cs[i]? = some (.int .u8 (b.toNat : Int)) := by
    intro i hi
    have h1 := hx i hi
    rw [List.getElem?_eq_getElem (by omega)] at h1
    obtain ⟨n, e0, _, w0⟩ := DataW.trod_int Tryd.underlying5 h1
    obtain ⟨b, rfl⟩ := of_wf8 w0
    refine ⟨b, ?_⟩
    rw [hc5] at e0
    have h2 : (List.take 1 (List.drop (i * 1) cs))[0]? = some (.int .u8 (b.toNat : Int)) := by rw [e0]; rfl
    simpa [List.getElem?_take, List.getElem?_drop] using h2
  refine ⟨fun i => if h : i < N then (hall i h).choose else 0#8, fun i hi => ?_⟩
  rw [(hall i hi).choose_spec]
  simp only [dif_pos hi]
theorem sub_cells {cs : List Value} {off m i : Nat} (hi : i < m) : ((cs.drop off).take m)[i]? = cs[off + i]? := by
  rw [List.getElem?_take_of_lt hi, List.getElem?_drop]
theorem row_of {cs : List Value} {n : Nat} {g : Nat → Value} (hl : cs.length = n) (h : ∀ i, i < n → cs[i]? = some (g i)) : cs = row n g := by
  apply List.ext_getElem?
  intro i
  by_cases hi : i < n
  · rw [h i hi, row_get n g i hi]
  · rw [List.getElem?_eq_none (by omega), List.getElem?_eq_none (by rw [row_length]; omega)]
theorem okWide_st {P : Program} {w : World} {r : Reach} {base : Nat} {t : TypeId} {v : Value} {fs : Array Field} (ht : P.underlying t = some (.struct fs)) (h : Value.okWide P w r base t v) : ∃ cs, v = .agg cs ∧ cs.size = P.cellsOf t ∧ Row.okWide P w r base t cs := by
  unfold Value.okWide at h
  rw [ht] at h
  exact h
theorem of_wf64 {n : Int} (h : (Lit.int .u64 n).wf = true) : ∃ a : BitVec 64, n = (a.toNat : Int) := by
  have hb := bounds_u64 h
  exact ⟨BitVec.ofNat 64 n.toNat, by rw [BitVec.toNat_ofNat]; omega⟩
theorem trod_st {H : Type} {enc : TypeId × Value → H} {P : Program} {w : World} {base : Nat} {spare : Nat → Bool} {held : Bool} {t : TypeId} {fs : List Field} {fuel : Nat} {cs : List Value} {x : DataW H × List MemPlace} (ht : P.underlying t = some (.struct fs.toArray)) (h : DataW.trod enc P w base spare held fuel t cs = some x) :
    ∃ n, cs.length = P.cellsOf t ∧ ∀ (i : Nat) (f : Field), fs[i]? = some f → ∃ y, DataW.trod enc P w base spare held n f.type ((cs.drop f.offset).take (P.cellsOf f.type)) = some y := by
  obtain ⟨xs, n, _, _, hl, hlen, hf⟩ := DataW.trod_struct ht h
  refine ⟨n, hl, fun i f hi => ?_⟩
  have hi2 : fs.toArray[i]? = some f := by simpa using hi
  have hlt : i < xs.length := by
    have := (List.getElem?_eq_some_iff.1 hi).1
    simp at hlen
    omega
  refine ⟨xs[i], ?_⟩
  rw [hf i f hi2, List.getElem?_eq_getElem hlt]
set_option maxRecDepth 100000 in
theorem pa_cells {H : Type} {enc : TypeId × Value → H} {W : World} {base : Nat} {spare : Nat → Bool} {held : Bool} {n : Nat} {cs : List Value} {x : DataW H × List MemPlace} (h : DataW.trod enc Tryd.prog W base spare held n 34 cs = some x) :
    ∃ a b c, ∀ i, i < 3 → cs[i]? = some (pav a b c i) := by
  have c3 : Tryd.prog.cellsOf 3 = 1 := by kernel_rfl
  obtain ⟨m, hl, hf⟩ := trod_st (fs := [_, _, _]) Tryd.underlying34 h
  have _ := hl
  · obtain ⟨y0, h0⟩ := hf 0 _ rfl
    obtain ⟨y1, h1⟩ := hf 1 _ rfl
    obtain ⟨y2, h2⟩ := hf 2 _ rfl
    simp only [c3] at h0 h1 h2
    obtain ⟨k0, e0, _, _⟩ := DataW.trod_int Tryd.underlying3 h0
    obtain ⟨k1, e1, _, _⟩ := DataW.trod_int Tryd.underlying3 h1
    obtain ⟨k2, e2, _, _⟩ := DataW.trod_int Tryd.underlying3 h2
    refine ⟨k0, k1, k2, fun i hi => ?_⟩
    have q0 := congrArg (·[0]?) e0
    have q1 := congrArg (·[0]?) e1
    have q2 := congrArg (·[0]?) e2
    simp only [sub_cells (show 0 < 1 by decide)] at q0 q1 q2
    rcases (by omega : i = 0 ∨ i = 1 ∨ i = 2) with rfl | rfl | rfl
    · exact q0
    · exact q1
    · exact q2
set_option maxRecDepth 100000 in
theorem head_cells {H : Type} {enc : TypeId × Value → H} {W : World} {base : Nat} {spare : Nat → Bool} {held : Bool} {n : Nat} {cs : List Value} {x : DataW H × List MemPlace} (h : DataW.trod enc Tryd.prog W base spare held n 37 cs = some x) :
    ∃ k : Hd, cs = row 24 (hdv k) := by
  have hC : Tryd.prog.cellsOf 37 = 24 := by kernel_rfl
  have c3 : Tryd.prog.cellsOf 3 = 1 := by kernel_rfl
  have cD : Tryd.prog.cellsOf 32 = 1 := by kernel_rfl
  have cB : Tryd.prog.cellsOf 34 = 3 := by kernel_rfl
  have cC : Tryd.prog.cellsOf 35 = 16 := by kernel_rfl
  obtain ⟨m, hl, hf⟩ := trod_st (fs := [_, _, _, _, _, _, _]) Tryd.underlying37 h
  rw [hC] at hl
  · obtain ⟨y0, h0⟩ := hf 0 _ rfl
    obtain ⟨y1, h1⟩ := hf 1 _ rfl
    obtain ⟨y2, h2⟩ := hf 2 _ rfl
    obtain ⟨y3, h3⟩ := hf 3 _ rfl
    obtain ⟨y4, h4⟩ := hf 4 _ rfl
    obtain ⟨y5, h5⟩ := hf 5 _ rfl
    obtain ⟨y6, h6⟩ := hf 6 _ rfl
    simp only [c3, cD, cB, cC] at h0 h1 h2 h3 h4 h5 h6
    obtain ⟨k0, e0, _, w0⟩ := DataW.trod_int Tryd.underlying32 h0
    obtain ⟨g, rfl⟩ := of_wf64 w0
    obtain ⟨k1, e1, _, _⟩ := DataW.trod_int Tryd.underlying3 h1
    obtain ⟨k2, e2, _, _⟩ := DataW.trod_int Tryd.underlying3 h2
    obtain ⟨k3, e3, _, _⟩ := DataW.trod_int Tryd.underlying3 h3
    obtain ⟨k4, e4, _, _⟩ := DataW.trod_int Tryd.underlying3 h4
    obtain ⟨a, b, c, e5⟩ := pa_cells h5
    obtain ⟨f, e6⟩ := arr_cells Tryd.underlying35 h6
    have q0 := congrArg (·[0]?) e0
    have q1 := congrArg (·[0]?) e1
    have q2 := congrArg (·[0]?) e2
    have q3 := congrArg (·[0]?) e3
    have q4 := congrArg (·[0]?) e4
    have p0 := e5 0 (by decide)
    have p1 := e5 1 (by decide)
    have p2 := e5 2 (by decide)
    simp only [sub_cells (show 0 < 1 by decide), sub_cells (show 0 < 3 by decide), sub_cells (show 1 < 3 by decide), sub_cells (show 2 < 3 by decide)] at q0 q1 q2 q3 q4 p0 p1 p2
    refine ⟨⟨g, k1, k2, k3, k4, a, b, c, f⟩, row_of hl fun i hi => ?_⟩
    by_cases c8 : i < 8
    · rcases (by omega : i = 0 ∨ i = 1 ∨ i = 2 ∨ i = 3 ∨ i = 4 ∨ i = 5 ∨ i = 6 ∨ i = 7) with rfl | rfl | rfl | rfl | rfl | rfl | rfl | rfl
      · exact q0
      · exact q1
      · exact q2
      · exact q3
      · exact q4
      · exact p0
      · exact p1
      · exact p2
    · have := e6 (i - 8) (by omega)
      rw [sub_cells (by omega), show 8 + (i - 8) = i by omega] at this
      rw [this]
      unfold hdv
      rw [if_neg (by omega), if_neg (by omega), if_neg (by omega), if_neg (by omega), if_neg (by omega), if_neg (by omega), if_neg (by omega), if_neg (by omega)]
theorem open_head {H : Type} {enc : TypeId × Value → H} {W : World} {r : Reach} {b0 base : Nat} {spare : Nat → Bool} {held : Bool} {v : Value} {d : DataW H} {p : List MemPlace}
    (hv : Value.okWide Tryd.prog W r b0 37 v) (h : DataW.Trod enc Tryd.prog W base spare held 37 v d p) : ∃ k : Hd, v = .agg (row 24 (hdv k)).toArray := by
  obtain ⟨cs, rfl, _, _⟩ := okWide_st Tryd.underlying37 hv
  obtain ⟨fuel, hf⟩ := h
  obtain ⟨k, e⟩ := head_cells hf
  refine ⟨k, ?_⟩
  rw [← e]
  simp [Value.cells]
set_option maxRecDepth 100000 in
theorem root_cells {H : Type} {enc : TypeId × Value → H} {W : World} {base : Nat} {spare : Nat → Bool} {held : Bool} {n : Nat} {cs : List Value} {x : DataW H × List MemPlace} (h : DataW.trod enc Tryd.prog W base spare held n 39 cs = some x) :
    ∃ g b s T, cs = row 35 (rtV g b s T) := by
  have hC : Tryd.prog.cellsOf 39 = 35 := by kernel_rfl
  have c3 : Tryd.prog.cellsOf 3 = 1 := by kernel_rfl
  have c4 : Tryd.prog.cellsOf 4 = 1 := by kernel_rfl
  have c32 : Tryd.prog.cellsOf 32 = 1 := by kernel_rfl
  have c31 : Tryd.prog.cellsOf 31 = 32 := by kernel_rfl
  obtain ⟨m, hl, hf⟩ := trod_st (fs := [_, _, _, _]) Tryd.underlying39 h
  rw [hC] at hl
  obtain ⟨y0, h0⟩ := hf 0 _ rfl
  obtain ⟨y1, h1⟩ := hf 1 _ rfl
  obtain ⟨y2, h2⟩ := hf 2 _ rfl
  obtain ⟨y3, h3⟩ := hf 3 _ rfl
  simp only [c3, c4, c32, c31] at h0 h1 h2 h3
  obtain ⟨k0, e0, _, w0⟩ := DataW.trod_int Tryd.underlying32 h0
  obtain ⟨g, rfl⟩ := of_wf64 w0
  obtain ⟨k1, e1, _⟩ := DataW.trod_bool Tryd.underlying4 h1
  obtain ⟨k2, e2, _, _⟩ := DataW.trod_int Tryd.underlying3 h2
  obtain ⟨f, e3⟩ := arr_cells Tryd.underlying31 h3
  have q0 := congrArg (·[0]?) e0
  have q1 := congrArg (·[0]?) e1
  have q2 := congrArg (·[0]?) e2
  simp only [sub_cells (show 0 < 1 by decide)] at q0 q1 q2
  refine ⟨g, k1, k2, f, row_of hl fun i hi => ?_⟩
  by_cases c8 : i < 3
  · rcases (by omega : i = 0 ∨ i = 1 ∨ i = 2) with rfl | rfl | rfl
    · exact q0
    · exact q1
    · exact q2
  · have := e3 (i - 3) (by omega)
    rw [sub_cells (by omega), show 3 + (i - 3) = i by omega] at this
    rw [this]
    unfold rtV
    rw [if_neg (by omega), if_neg (by omega), if_neg (by omega)]
    rfl
theorem open_root {H : Type} {enc : TypeId × Value → H} {W : World} {r : Reach} {b0 base : Nat} {spare : Nat → Bool} {held : Bool} {v : Value} {d : DataW H} {p : List MemPlace}
    (hv : Value.okWide Tryd.prog W r b0 39 v) (h : DataW.Trod enc Tryd.prog W base spare held 39 v d p) : ∃ g b s T, v = .agg (row 35 (rtV g b s T)).toArray := by
  obtain ⟨cs, rfl, _, _⟩ := okWide_st Tryd.underlying39 hv
  obtain ⟨fuel, hf⟩ := h
  obtain ⟨g, b, s, T, e⟩ := root_cells hf
  refine ⟨g, b, s, T, ?_⟩
  rw [← e]
  simp [Value.cells]
theorem open_arru8_32 {H : Type} {enc : TypeId × Value → H} {W : World} {r : Reach} {b0 base : Nat} {spare : Nat → Bool} {held : Bool} {v : Value} {d : DataW H} {p : List MemPlace}
    (hv : Value.okWide Tryd.prog W r b0 31 v) (h : DataW.Trod enc Tryd.prog W base spare held 31 v d p) : ∃ f : Nat → BitVec 8, v = .agg (row 32 (yv f)).toArray := open_arr Tryd.underlying31 (by kernel_rfl) hv h
end Go.Proofs.YtgjabfjkokpkiaaDoor
