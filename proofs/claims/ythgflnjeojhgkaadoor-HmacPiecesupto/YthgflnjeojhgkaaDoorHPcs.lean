/-
  Pieces of bytes that came in: how they read, how each is written and put behind.
-/
import Derived.Test.YthgflnjeojhgkaaDoorOpenU
import Derived.Test.YthgflnjeojhgkaaDoorHMac
import Derived.Test.YthgflnjeojhgkaaDoorGrowV
import Derived.Test.YthgflnjeojhgkaaDoorRows
namespace Go.Proofs.YthgflnjeojhgkaaDoor
open Go.ChangeShapes Go.WideShapes Go.ChangeAt Go.RowKit Go.BigFrame
/-- so many bytes, nil or not, wherever -/
def PV (u : Value) (l : Nat) (b : Nat → BitVec 8) (w : World) : Prop := (u = .slice none 0 0 ∧ l = 0) ∨ ∃ a cap, u = .slice (some a) l cap ∧ l ≤ cap ∧ ∀ j, j < l → w.cell? (a.add j) = some (yv b j)
theorem cell_ext {w X : World} (k : Ext w X) {a : Addr} {v : Value} (h : w.cell? a = some v) : X.cell? a = some v := (Below.cell k (p := a) (World.block_lt_of_cell? w a h)).trans h
theorem PV.ext {u : Value} {l : Nat} {b : Nat → BitVec 8} {w X : World} (h : PV u l b w) (k : Ext w X) : PV u l b X := by
  rcases h with h | ⟨a, cap, h1, h2, h3⟩
  · exact .inl h
  · exact .inr ⟨a, cap, h1, h2, fun j hj => cell_ext k (h3 j hj)⟩
theorem open_piece {H : Type} {enc : TypeId × Value → H} {W : World} {base : Nat} {spare : Nat → Bool} {held : Bool} {n : Nat} {cs : List Value} {x : DataW H × List MemPlace} (h : DataW.trod enc Tryd.prog W base spare held n 22 cs = some x) :
    ∃ u l b, cs = [u] ∧ PV u l b W ∧ ((x.1 = .nil ∧ l = 0) ∨ ∃ e s, x.1 = .slice e s ∧ e.length = l) := by
  rcases open_ints Tryd.underlying22 Tryd.underlying5 (by kernel_rfl) h with ⟨hcs, hx⟩ | ⟨a, len, cap, zs, hcs, _, hl, _, hz, hd, hcell, hwz⟩
  · exact ⟨.slice none 0 0, 0, fun _ => 0#8, hcs, .inl ⟨rfl, rfl⟩, .inl ⟨by rw [hx], rfl⟩⟩
  · have hlen : len ≤ zs.length := by rw [hz]; split <;> omega
    have hall : ∀ i, i < len → ∃ c : BitVec 8, zs.getD i 0 = (c.toNat : Int) := fun i hi => by
      refine of_wf8 (hwz _ ?_)
      rw [List.getD_eq_getElem?_getD, List.getElem?_eq_getElem (by omega), Option.getD_some]
      exact List.getElem_mem _
    refine ⟨.slice (some a) len cap, len, fun i => if h : i < len then (hall i h).choose else 0#8, hcs, .inr ⟨a, cap, rfl, hl, fun j hj => ?_⟩, .inr ⟨_, _, by rw [hd], by simp [lits]; omega⟩⟩
    rw [hcell j (by omega)]
    simp only [yv, dif_pos hj]
    rw [← (hall j hj).choose_spec]
theorem addr_eta (x : Addr) (h : x.spot = none) : x = ⟨x.block, x.off, none⟩ := by
  cases x
  simp only at h
  subst h
  rfl
/-- pieces that came in -/
def PArg (v : Value) (W : World) (T : Nat) : Prop := v = .slice none 0 0 ∨ ∃ (ab ao n cap : Nat) (us : Nat → Value) (ls : Nat → Nat) (bs : Nat → Nat → BitVec 8), v = .slice (some ⟨ab, ao, none⟩) n cap ∧ n ≤ cap ∧ (∀ i, i < n → W.cell? ⟨ab, ao + i, none⟩ = some (us i) ∧ PV (us i) (ls i) (bs i) W) ∧ sumL ls n ≤ T ∧ n ≤ T
theorem sum_le {H : Type} (elems : List (DataW H)) (ls : Nat → Nat) : ∀ n, n ≤ elems.length → (∀ i, i < n → ∀ d, elems[i]? = some d → ls i ≤ Rows.uptoBulk d) → sumL ls n ≤ Rows.uptoBulkAll (elems.take n)
  | 0, _, _ => Nat.zero_le _
  | n + 1, hn, h => by
    have ih := sum_le elems ls n (by omega) (fun i hi => h i (by omega))
    have hx : elems[n]? = some elems[n] := List.getElem?_eq_getElem (by omega)
    have h1 := h n (by omega) _ hx
    rw [List.take_succ_eq_append_getElem (by omega)]
    have happ : ∀ (l r : List (DataW H)), Rows.uptoBulkAll (l ++ r) = Rows.uptoBulkAll l + Rows.uptoBulkAll r := by
      intro l r
      induction l with
      | nil => simp [Rows.uptoBulkAll]
      | cons x l ih => simp only [List.cons_append, Rows.uptoBulkAll, ih]; omega
    rw [happ]
    simp only [Rows.uptoBulkAll, sumL]
    omega
theorem parg {H : Type} {enc : TypeId × Value → H} {W : World} {r : Reach} {b0 base : Nat} {spare : Nat → Bool} {held : Bool} {v : Value} {d : DataW H} {p : List MemPlace}
    (hv : Value.okWide Tryd.prog W r b0 28 v) (h : DataW.Trod enc Tryd.prog W base spare held 28 v d p) (hk : Rows.uptoBulkAll [d] ≤ 1048576) : PArg v W 1048576 := by
  obtain ⟨a, len, cap, rfl⟩ := okWide_slice Tryd.underlying28 hv
  obtain ⟨fuel, hf⟩ := h
  rcases DataW.trod_slice Tryd.underlying28 hf with ⟨hcs, _⟩ | ⟨x, l, c, elems, rest, m, _, hcs, hd, _, hl, _, hlen, hel, _, _⟩
  · simp [Value.cells] at hcs
    obtain ⟨rfl, rfl, rfl⟩ := hcs
    exact .inl rfl
  · simp [Value.cells] at hcs
    obtain ⟨rfl, rfl, rfl⟩ := hcs
    have hsp : x.spot = none := by
      simp only [Value.okWide, Tryd.underlying28, Cell.okWide, Cell.ok] at hv
      exact hv.2.2.2.1
    have hc22 : Tryd.prog.cellsOf 22 = 1 := by kernel_rfl
    have each : ∀ i, i < len → ∃ u l b, W.cell? (x.add i) = some u ∧ PV u l b W ∧ ∀ d', (elems.map (·.1))[i]? = some d' → l ≤ Rows.uptoBulk d' := by
      intro i hi
      have h1 := hel i hi
      rw [hc22, Nat.mul_one, List.getElem?_eq_getElem (by omega)] at h1
      obtain ⟨cs, h2, h3⟩ := Option.bind_eq_some_iff.1 h1
      obtain ⟨u, l, b, rfl, hp, hx⟩ := open_piece h3
      refine ⟨u, l, b, cell_of_cells?_one h2, hp, fun d' hd' => ?_⟩
      rw [List.getElem?_map, List.getElem?_eq_getElem (by omega)] at hd'
      simp only [Option.map_some, Option.some.injEq] at hd'
      subst hd'
      rcases hx with ⟨_, rfl⟩ | ⟨e, s, he, rfl⟩
      · exact Nat.zero_le _
      · rw [he]
        have := length_le e
        simp only [Rows.uptoBulk]
        omega
    have hadd : ∀ i, x.add i = ⟨x.block, x.off + i, none⟩ := fun i => by
      obtain ⟨xb, xo, xs⟩ := x
      cases hsp
      unfold Addr.add
      by_cases hi : i = 0
      · subst hi; simp
      · rw [if_neg hi]
    have hbulk : Rows.uptoBulkAll (elems.map (·.1)) ≤ 1048576 := by
      have hd1 := (Prod.mk.inj hd).1
      subst hd1
      simp only [Rows.uptoBulkAll, Rows.uptoBulk] at hk
      omega
    refine .inr ⟨x.block, x.off, len, cap, fun i => if h : i < len then (each i h).choose else undef, fun i => if h : i < len then (each i h).choose_spec.choose else 0, fun i => if h : i < len then (each i h).choose_spec.choose_spec.choose else fun _ => 0#8, ?_, hl, fun i hi => ?_, ?_, ?_⟩
    · rw [← addr_eta x hsp]
    · simp only [dif_pos hi]
      have h4 := (each i hi).choose_spec.choose_spec.choose_spec
      exact ⟨(congrArg W.cell? (hadd i).symm).trans h4.1, h4.2.1⟩
    · refine Nat.le_trans (sum_le (elems.map (·.1)) _ len (by simp; omega) fun i hi d' hd' => ?_) ?_
      · simp only [dif_pos hi]
        exact (each i hi).choose_spec.choose_spec.choose_spec.2.2 d' hd'
      · rw [List.take_of_length_le (by simp; omega)]
        exact hbulk
    · have := length_le (elems.map (·.1))
      simp at this
      omega
/-- a piece is written, wherever it lay in the world W -/
theorem writeP (c n l : Nat) (m b : Nat → BitVec 8) (u : Value) (W w : World) (hW : PV u l b W) (hE : Ext W w) (h : HashOf c m n w) (hC : TabC w) (hc : W.heap.size ≤ c) (hc0 : c ≠ 0) (hN : n + l < 4611686018427387904) :
    Calls Tryd.prog 24 #[.pointer (some ⟨c, 0, none⟩), u] w fun e w' => e = .returned (.tuple #[]) ∧ HashOf c (catF m n b) (n + l) w' ∧ But c w w' := by
  have same : ∀ w', w' = w → l = 0 → HashOf c (catF m n b) (n + l) w' ∧ But c w w' := fun w' e h0 => by
    subst e; subst h0
    exact ⟨h.congr fun j hj => by unfold catF; rw [if_pos hj], But.refl _ _⟩
  rcases hW with ⟨rfl, h0⟩ | ⟨a, cap, rfl, h2, h3⟩
  · exact (write_none c w).mono fun e w' hh => ⟨hh.1, same w' hh.2 h0⟩
  · rcases Nat.eq_zero_or_pos l with h0 | h0
    · rw [h0]
      refine (write_zero c cap a w).mono fun e w' hh => ⟨hh.1, ?_⟩
      have := same w' hh.2 h0
      rwa [h0] at this
    · have hlt : a.block < W.heap.size := by
        have := World.block_lt_of_cell? W _ (h3 0 h0)
        rwa [add_block] at this
      exact write_any c n l cap m b a w h hC ⟨fun j hj => cell_ext hE (h3 j hj), Nat.lt_of_lt_of_le hlt (Below.size hE)⟩ h2 (by omega) hc0 hN
end Go.Proofs.YthgflnjeojhgkaaDoor
