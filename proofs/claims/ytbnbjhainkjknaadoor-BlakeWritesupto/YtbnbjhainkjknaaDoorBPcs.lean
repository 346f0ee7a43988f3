/-
  Pieces that came in; how they are written and put one behind the other.
-/
import Derived.Test.YtbnbjhainkjknaaDoorOpenU
import Derived.Test.YtbnbjhainkjknaaDoorRSum
import Derived.Test.YtbnbjhainkjknaaDoorFork
import Derived.Test.YtbnbjhainkjknaaDoorGrowV
import Derived.Test.YtbnbjhainkjknaaDoorLad
namespace Go.Proofs.YtbnbjhainkjknaaDoor
open Go.ChangeShapes Go.WideShapes Go.ChangeAt Go.RowKit
def PV (u : Value) (l : Nat) (b : Nat → BitVec 8) (w : World) : Prop := (u = .slice none 0 0 ∧ l = 0) ∨ ∃ a cap, u = .slice (some a) l cap ∧ l ≤ cap ∧ ∀ j, j < l → w.cell? (a.add j) = some (yv b j)
theorem cell_ext {w X : World} (k : Ext w X) {a : Addr} {v : Value} (h : w.cell? a = some v) : X.cell? a = some v := (Below.cell k (p := a) (World.block_lt_of_cell? w a h)).trans h
theorem PV.ext {u : Value} {l : Nat} {b : Nat → BitVec 8} {w X : World} (h : PV u l b w) (k : Ext w X) : PV u l b X := by
  rcases h with h | ⟨a, cap, h1, h2, h3⟩
  · exact .inl h
  · exact .inr ⟨a, cap, h1, h2, fun j hj => cell_ext k (h3 j hj)⟩
theorem open_piece {H : Type} {enc : TypeId × Value → H} {W : World} {base : Nat} {spare : Nat → Bool} {held : Bool} {n : Nat} {cs : List Value} {x : DataW H × List MemPlace} (h : DataW.trod enc Tryd.prog W base spare held n 22 cs = some x) :
    ∃ u l b, cs = [u] ∧ PV u l b W ∧ ((x.1 = .nil ∧ l = 0) ∨ ∃ e s, x.1 = .slice e s ∧ e.length = l) := by
  rcases open_ints Tryd.underlying22 Tryd.underlying5 (by kernel_rfl) h with ⟨hcs, hx⟩ | ⟨a, len, cap, zs, hcs, _, hl, _, hz, hd, hcell, hwz⟩
  · exact ⟨.slice none 0 0, 0, fun _ => 0#8, hcs, .inl ⟨rfl, rfl⟩, .inl ⟨by rw [hx], rfl⟩⟩
  · have hlen : len ≤ zs.length := by rw [hz]; split <;> omega
    have hall : ∀ i, i < len → ∃ c : BitVec 8, zs.getD i 0 = (c.toNat : Int) := fun i hi => by
      refine of_wf8 (hwz _ ?_)
      rw [List.getD_eq_getElem?_getD, List.getElem?_eq_getElem (by omega), Option.getD_some]
      exact List.getElem_mem _
    refine ⟨.slice (some a) len cap, len, fun i => if h : i < len then (hall i h).choose else 0#8, hcs, .inr ⟨a, cap, rfl, hl, fun j hj => ?_⟩, .inr ⟨_, _, by rw [hd], by simp [lits]; omega⟩⟩
    rw [hcell j (by omega)]
    simp only [yv, dif_pos hj]
    rw [← (hall j hj).choose_spec]
theorem addr_eta (x : Addr) (h : x.spot = none) : x = ⟨x.block, x.off, none⟩ := by
  cases x
  simp only at h
  subst h
  rfl
/-- pieces that came in -/
def PArg (v : Value) (W : World) (T : Nat) : Prop := v = .slice none 0 0 ∨ ∃ (ab ao n cap : Nat) (us : Nat → Value) (ls : Nat → Nat) (bs : Nat → Nat → BitVec 8), v = .slice (some ⟨ab, ao, none⟩) n cap ∧ n ≤ cap ∧ (∀ i, i < n → W.cell? ⟨ab, ao + i, none⟩ = some (us i) ∧ PV (us i) (ls i) (bs i) W) ∧ sumL ls n ≤ T ∧ n ≤ T
theorem sum_le {H : Type} (elems : List (DataW H)) (ls : Nat → Nat) : ∀ n, n ≤ elems.length → (∀ i, i < n → ∀ d, elems[i]? = some d → ls i ≤ Rows.uptoBulk d) → sumL ls n ≤ Rows.uptoBulkAll (elems.take n)
  | 0, _, _ => Nat.zero_le _
  | n + 1, hn, h => by
    have ih := sum_le elems ls n (by omega) (fun i hi => h i (by omega))
    have hx : elems[n]? = some elems[n] := List.getElem?_eq_getElem (by omega)
    have h1 := h n (by omega) _ hx
    rw [List.take_succ_eq_append_getElem (by omega)]
    have happ : ∀ (l r : List (DataW H)), Rows.uptoBulkAll (l ++ r) = Rows.uptoBulkAll l + Rows.uptoBulkAll r := by
      intro l r
      induction l with
      | nil => simp [Rows.uptoBulkAll]
      | cons x l ih => simp only [List.cons_append, Rows.uptoBulkAll, ih]; omega
    rw [happ]
    simp only [Rows.uptoBulkAll, sumL]
    omega
theorem parg {H : Type} {enc : TypeId × Value → H} {W : World} {r : Reach} {b0 base : Nat} {spare : Nat → Bool} {held : Bool} {v : Value} {d : DataW H} {p : List MemPlace}
    (hv : Value.okWide Tryd.prog W r b0 35 v) (h : DataW.Trod enc Tryd.prog W base spare held 35 v d p) (hk : Rows.uptoBulkAll [d] ≤ 1048576) : PArg v W 1048576 := by
  obtain ⟨a, len, cap, rfl⟩ := okWide_slice Tryd.underlying35 hv
  obtain ⟨fuel, hf⟩ := h
  rcases DataW.trod_slice Tryd.underlying35 hf with ⟨hcs, _⟩ | ⟨x, l, c, elems, rest, m, _, hcs, hd, _, hl, _, hlen, hel, _, _⟩
  · simp [Value.cells] at hcs
    obtain ⟨rfl, rfl, rfl⟩ := hcs
    exact .inl rfl
  · simp [Value.cells] at hcs
    obtain ⟨rfl, rfl, rfl⟩ := hcs
    have hsp : x.spot = none := by
      simp only [Value.okWide, Tryd.underlying35, Cell.okWide, Cell.ok] at hv
      exact hv.2.2.2.1
    have hc22 : Tryd.prog.cellsOf 22 = 1 := by kernel_rfl
    have each : ∀ i, i < len → ∃ u l b, W.cell? (x.add i) = some u ∧ PV u l b W ∧ ∀ d', (elems.map (·.1))[i]? = some d' → l ≤ Rows.uptoBulk d' := by
      intro i hi
      have h1 := hel i hi
      rw [hc22, Nat.mul_one, List.getElem?_eq_getElem (by omega)] at h1
      obtain ⟨cs, h2, h3⟩ := Option.bind_eq_some_iff.1 h1
      obtain ⟨u, l, b, rfl, hp, hx⟩ := open_piece h3
      refine ⟨u, l, b, cell_of_cells?_one h2, hp, fun d' hd' => ?_⟩
      rw [List.getElem?_map, List.getElem?_eq_getElem (by omega)] at hd'
      simp only [Option.map_some, Option.some.injEq] at hd'
      subst hd'
      rcases hx with ⟨_, rfl⟩ | ⟨e, s, he, rfl⟩
      · exact Nat.zero_le _
      · rw [he]
        have := length_le e
        simp only [Rows.uptoBulk]
        omega
    have hadd : ∀ i, x.add i = ⟨x.block, x.off + i, none⟩ := fun i => by
      obtain ⟨xb, xo, xs⟩ := x
      cases hsp
      unfold Addr.add
      by_cases hi : i = 0
      · subst hi; simp
      · rw [if_neg hi]
    have hbulk : Rows.uptoBulkAll (elems.map (·.1)) ≤ 1048576 := by
      have hd1 := (Prod.mk.inj hd).1
      subst hd1
      simp only [Rows.uptoBulkAll, Rows.uptoBulk] at hk
      omega
    refine .inr ⟨x.block, x.off, len, cap, fun i => if h : i < len then (each i h).choose else undef, fun i => if h : i < len then (each i h).choose_spec.choose else 0, fun i => if h : i < len then (each i h).choose_spec.choose_spec.choose else fun _ => 0#8, ?_, hl, fun i hi => ?_, ?_, ?_⟩
    · rw [← addr_eta x hsp]
    · simp only [dif_pos hi]
      have h4 := (each i hi).choose_spec.choose_spec.choose_spec
      exact ⟨(congrArg W.cell? (hadd i).symm).trans h4.1, h4.2.1⟩
    · refine Nat.le_trans (sum_le (elems.map (·.1)) _ len (by simp; omega) fun i hi d' hd' => ?_) ?_
      · simp only [dif_pos hi]
        exact (each i hi).choose_spec.choose_spec.choose_spec.2.2 d' hd'
      · rw [List.take_of_length_le (by simp; omega)]
        exact hbulk
    · have := length_le (elems.map (·.1))
      simp at this
      omega
open Go.BigFrame
set_option maxHeartbeats 400000 in
theorem write_zero (c cap : Nat) (a : Addr) (w : World) : Calls Tryd.prog 18 #[.pointer (some ⟨c, 0, none⟩), .slice (some a) 0 cap] w fun e w' => e = .returned (.tuple #[]) ∧ w' = w := by
  go_enter Tryd.func18, Tryd.ntmps18
  go_wp2
  go_loopw [1] (fun v wr => v = .slice (some a) 0 cap ∧ wr = w) (fun _ _ => 0)
  case atStart => exact ⟨rfl, rfl⟩
  case round =>
    obtain ⟨rfl, rfl⟩ := hrel
    go_wp2
    exact bodyPost_end (v := .tuple #[]) (by simp [results, Tryd.results18]) rfl ⟨rfl, rfl⟩
theorem writeP (c sz n l : Nat) (h0 : Nat → BitVec 64) (m b : Nat → BitVec 8) (u : Value) (W w : World) (hW : PV u l b W) (hE : Ext W w) (h : HashOf c sz h0 m n w) (hC : TabC w) (hc : W.heap.size ≤ c) (hc0 : c ≠ 0) :
    Calls Tryd.prog 18 #[.pointer (some ⟨c, 0, none⟩), u] w fun e w' => e = .returned (.tuple #[]) ∧ HashOf c sz h0 (catF m n b) (n + l) w' ∧ But c w w' := by
  have same : ∀ w', w' = w → l = 0 → HashOf c sz h0 (catF m n b) (n + l) w' ∧ But c w w' := fun w' e h0 => by
    subst e; subst h0
    exact ⟨h.congr fun j hj => by unfold catF; rw [if_pos hj], But.refl _ _⟩
  rcases hW with ⟨rfl, h0⟩ | ⟨a, cap, rfl, h2, h3⟩
  · exact (write_none c w).mono fun e w' hh => ⟨hh.1, same w' hh.2 h0⟩
  · rcases Nat.eq_zero_or_pos l with h0 | h0
    · rw [h0]
      refine (write_zero c cap a w).mono fun e w' hh => ⟨hh.1, ?_⟩
      have := same w' hh.2 h0
      rwa [h0] at this
    · have hlt : a.block < W.heap.size := by
        have := World.block_lt_of_cell? W _ (h3 0 h0)
        rwa [add_block] at this
      exact write_any c sz n l cap _ m b a w h hC ⟨fun j hj => cell_ext hE (h3 j hj), Nat.lt_of_lt_of_le hlt (Below.size hE)⟩ h2 (by omega) hc0
theorem growP {ops : Array Oper} {rest : List Oper} {o : Oper} {a : Act} {Q : Exit → Act → World → Prop} {base n m : Nat} {v u : Value} {f b : Nat → BitVec 8} {w : World} (hgd : o.guard = none) (s x : Operand)
    (ho : o.op = .call { callee := .builtin .append, args := #[s, x], argTypes := #[22, 22] }) (hs : a.eval s = v) (hown : OwnB base 5 v n (yv f) w) (hx : a.eval x = u) (hP : PV u m b w) (hb : n + m ≤ 140737488355328) (hbase : base ≤ w.heap.size)
    (h : ∀ v' w', OwnB base 5 v' (n + m) (yv (catF f n b)) w' → w.grownBy w' v.ownBlock → (v' = .slice none 0 0 ↔ v = .slice none 0 0 ∧ m = 0) → wpList Tryd.prog ops Q rest (a.put o.dst v') w') : wpList Tryd.prog ops Q (o :: rest) a w := by
  obtain ⟨i, z, e1, e2, e3, e4, e5⟩ := elem22.info
  have h1 : ∀ j, j < n → yv f j = yv (catF f n b) j := fun j hj => by simp only [yv]; unfold catF; rw [if_pos hj]
  rcases hP with ⟨rfl, rfl⟩ | ⟨ad, cap, rfl, h2, h3⟩
  · refine wpList_grow_none (v := v) elem22 hgd s x ho hs hown hx (h v w (hown.congr h1) ⟨rfl, rfl, rfl, Nat.le_refl _, fun _ _ _ => rfl⟩ (by simp))
  · refine wpList_append_own w hgd s x 22 ho base 5 i z 1 1 elem22.slice e1 e2 e3 e4 e5 (by decide) v n (row n (yv f)) hs hown ad m cap (row m (yv b)) hx (by rw [row_length]; omega) (fun j w0 hj => ?_) (fun w0 hw0 => ?_) (by unfold maxLen; omega) (by omega) hbase fun v' w' k2 k3 k4 => h v' w' ?_ k3 k4
    · obtain ⟨hj', rfl⟩ := row_some hj
      exact h3 j hj'
    · obtain ⟨j, hj, rfl⟩ := List.mem_map.1 hw0
      rfl
    · unfold OwnB
      rwa [row_append n m (yv f) (yv b) (yv (catF f n b)) h1 (fun j hj => by simp only [yv]; unfold catF; rw [if_neg (by omega), Nat.add_sub_cancel_left])] at k2
theorem own_ne {base n c sz k : Nat} {v : Value} {f : Nat → BitVec 8} {h0 : Nat → BitVec 64} {p : Nat → BitVec 8} {w : World} (h : OwnB base 5 v n (yv f) w) (hz : n = 0 → v = .slice none 0 0) (hh : HashOf c sz h0 p k w) : v.ownBlock ≠ some c := by
  rcases Nat.eq_zero_or_pos n with e | e
  · rw [hz e]; simp [Value.ownBlock]
  · obtain ⟨g, cap, rfl, _, _, _, hR⟩ := h.lies e
    intro hg
    simp only [Value.ownBlock, Option.some.injEq] at hg
    obtain ⟨q, wt, _, _, _, hS⟩ := hh
    have h1 := hR.1 0 e
    have h2 := HashAt.size hS
    rw [hg, h2] at h1
    simp only [yv] at h1
    cases h1
theorem HashOf.grown {c sz n : Nat} {h0 : Nat → BitVec 64} {m : Nat → BitVec 8} {w X : World} {row : Option Nat} (h : HashOf c sz h0 m n w) (hg : w.grownBy X row) (hne : some c ≠ row) : HashOf c sz h0 m n X := by
  obtain ⟨q, wt, h1, h2, h3, h4⟩ := h
  exact ⟨q, wt, h1, h2, h3, RowAt.grown h4 hg hne⟩
end Go.Proofs.YtbnbjhainkjknaaDoor
