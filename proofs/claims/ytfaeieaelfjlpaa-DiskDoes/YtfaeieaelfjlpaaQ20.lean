/-
  A nil disk. How Ops that came in read.
-/
import Derived.Test.YtfaeieaelfjlpaaQ19
import Derived.ProofKit
import Derived.OpenShut
import Derived.SizedLaws
import Derived.Lib.SmallJoins
import Derived.Deep.Slices
namespace Go.Proofs.Ytfaeieaelfjlpaa
open Go.RowKit Go.BigFrame Go.Maps
theorem nil_checkB (x : Int) (o : Option Addr) (l cap : Nat) (w : World) : Calls Try.prog 26 #[.pointer none, .int .i64 x, .slice o l cap] w fun e w' => e = .returned (.int .i64 6) ∧ w' = w := by
  have kc := hideit (nil_check x w)
  go_enter Try.func26, Try.ntmps26
  go_wp2_with (go_at_call 43; refine kc.out.mono ?_; rintro e w9 ⟨rfl, hw9⟩; rw [hw9]; clear hw9)
  go_ret
  exact ⟨rfl, rfl⟩
theorem nil_stop (x : Int) (w : World) : Calls Try.prog 20 #[.pointer none, .int .i64 x] w fun e w' => e = .returned (.tuple #[]) ∧ w' = w := by
  go_enter Try.func20, Try.ntmps20
  go_wp2
  exact bodyPost_ret (v := .tuple #[]) (by simp [results, Try.results20]) rfl ⟨rfl, rfl⟩
theorem nil_read (x : Int) (w : World) : Calls Try.prog 19 #[.pointer none, .int .i64 x] w fun e w' => e = .returned (.tuple #[.slice none 0 0, .int .i64 6]) ∧ w' = w := by
  have kc := hideit (nil_check x w)
  go_enter Try.func19, Try.ntmps19
  go_wp2_with (go_at_call 43; refine kc.out.mono ?_; rintro e w9 ⟨rfl, hw9⟩; rw [hw9]; clear hw9)
  go_ret2
  exact ⟨rfl, rfl⟩
theorem nil_write (x : Int) (o : Option Addr) (l cap : Nat) (w : World) : Calls Try.prog 11 #[.pointer none, .int .i64 x, .slice o l cap] w fun e w' => e = .returned (.int .i64 6) ∧ w' = w := by
  have kc := hideit (nil_checkB x o l cap w)
  go_enter Try.func11, Try.ntmps11
  go_wp2_with (go_at_call 26; refine kc.out.mono ?_; rintro e w9 ⟨rfl, hw9⟩; rw [hw9]; clear hw9)
  go_ret
  exact ⟨rfl, rfl⟩
theorem nil_tamper (x : Int) (o : Option Addr) (l cap : Nat) (w : World) : Calls Try.prog 21 #[.pointer none, .int .i64 x, .slice o l cap] w fun e w' => e = .returned (.int .i64 6) ∧ w' = w := by
  have kc := hideit (nil_checkB x o l cap w)
  go_enter Try.func21, Try.ntmps21
  go_wp2_with (go_at_call 26; refine kc.out.mono ?_; rintro e w9 ⟨rfl, hw9⟩; rw [hw9]; clear hw9)
  go_ret
  exact ⟨rfl, rfl⟩
theorem nil_flush  (w : World) : Calls Try.prog 13 #[.pointer none] w fun e w' => e = .returned (.int .i64 6) ∧ w' = w := by
  go_enter Try.func13, Try.ntmps13
  go_wp2
  go_ret
  exact ⟨rfl, rfl⟩
theorem nil_crash (o : Option Addr) (l cap : Nat) (w : World) : Calls Try.prog 18 #[.pointer none, .slice o l cap] w fun e w' => e = .returned (.int .i64 6) ∧ w' = w := by
  go_enter Try.func18, Try.ntmps18
  go_wp2
  go_ret
  exact ⟨rfl, rfl⟩
theorem nil_unsure  (w : World) : Calls Try.prog 17 #[.pointer none] w fun e w' => e = .returned (.slice none 0 0) ∧ w' = w := by
  go_enter Try.func17, Try.ntmps17
  go_wp2
  go_ret
  exact ⟨rfl, rfl⟩
theorem nil_fork  (w : World) : Calls Try.prog 10 #[.pointer none] w fun e w' => e = .returned (.pointer none) ∧ w' = w := by
  go_enter Try.func10, Try.ntmps10
  go_wp2
  go_ret
  exact ⟨rfl, rfl⟩
theorem nil_has (x : Int) (w : World) : Calls Try.prog 38 #[.pointer none, .int .i64 x] w fun e w' => e = .returned (.bool false) ∧ w' = w := by
  have kc := hideit (nil_len w)
  by_cases h0 : 0 ≤ x
  · go_enter Try.func38, Try.ntmps38
    go_wp2_with (go_at_call 23; refine kc.out.mono ?_; rintro e w9 ⟨rfl, hw9⟩; rw [hw9]; clear hw9)
    go_ret
    exact ⟨by rw [← decide_eq_false (show ¬ x < 0 by omega)]; rfl, rfl⟩
  · go_enter Try.func38, Try.ntmps38
    go_wp2_with (go_at_call 23; refine kc.out.mono ?_; rintro e w9 ⟨rfl, hw9⟩; rw [hw9]; clear hw9)
    go_ret
    exact ⟨rfl, rfl⟩
theorem nil_sure (x : Int) (w : World) : Calls Try.prog 16 #[.pointer none, .int .i64 x] w fun e w' => e = .returned (.slice none 0 0) ∧ w' = w := by
  have kc := hideit (nil_has x w)
  go_enter Try.func16, Try.ntmps16
  go_wp2_with (go_at_call 38; refine kc.out.mono ?_; rintro e w9 ⟨rfl, hw9⟩; rw [hw9]; clear hw9)
  go_ret
  exact ⟨rfl, rfl⟩
end Go.Proofs.Ytfaeieaelfjlpaa
namespace Go.Proofs.Ytfaeieaelfjlpaa
open Go.ChangeShapes Go.WideShapes Go.ChangeAt Go.RowKit
theorem okWide_st {P : Program} {w : World} {r : Reach} {base : Nat} {t : TypeId} {v : Value} {fs : Array Field} (ht : P.underlying t = some (.struct fs)) (h : Value.okWide P w r base t v) : ∃ cs, v = .agg cs ∧ cs.size = P.cellsOf t ∧ Row.okWide P w r base t cs := by
  unfold Value.okWide at h
  rw [ht] at h
  exact h
theorem trod_st {H : Type} {enc : TypeId × Value → H} {P : Program} {w : World} {base : Nat} {spare : Nat → Bool} {held : Bool} {t : TypeId} {fs : List Field} {fuel : Nat} {cs : List Value} {x : DataW H × List MemPlace} (ht : P.underlying t = some (.struct fs.toArray)) (h : DataW.trod enc P w base spare held fuel t cs = some x) :
    ∃ n, cs.length = P.cellsOf t ∧ ∀ (i : Nat) (f : Field), fs[i]? = some f → ∃ y, DataW.trod enc P w base spare held n f.type ((cs.drop f.offset).take (P.cellsOf f.type)) = some y := by
  obtain ⟨xs, n, _, _, hl, hlen, hf⟩ := DataW.trod_struct ht h
  refine ⟨n, hl, fun i f hi => ?_⟩
  have hi2 : fs.toArray[i]? = some f := by simpa using hi
  have hlt : i < xs.length := by
    have := (List.getElem?_eq_some_iff.1 hi).1
    simp at hlen
    omega
  refine ⟨xs[i], ?_⟩
  rw [hf i f hi2, List.getElem?_eq_getElem hlt]
def PV (u : Value) (l : Nat) (b : Nat → BitVec 8) (w : World) : Prop := (u = .slice none 0 0 ∧ l = 0) ∨ ∃ a cap, u = .slice (some a) l cap ∧ l ≤ cap ∧ ∀ j, j < l → w.cell? (a.add j) = some (yv b j)
theorem cell_ext {w X : World} (k : Ext w X) {a : Addr} {v : Value} (h : w.cell? a = some v) : X.cell? a = some v := (Below.cell k (p := a) (World.block_lt_of_cell? w a h)).trans h
theorem PV.ext {u : Value} {l : Nat} {b : Nat → BitVec 8} {w X : World} (h : PV u l b w) (k : Ext w X) : PV u l b X := by
  rcases h with h | ⟨a, cap, h1, h2, h3⟩
  · exact .inl h
  · exact .inr ⟨a, cap, h1, h2, fun j hj => cell_ext k (h3 j hj)⟩
theorem of_wf8 {n : Int} (h : (Lit.int .u8 n).wf = true) : ∃ a : BitVec 8, n = (a.toNat : Int) := by
  have hb := bounds_u8 h
  exact ⟨BitVec.ofNat 8 n.toNat, by rw [BitVec.toNat_ofNat]; omega⟩
set_option maxRecDepth 100000 in
theorem open_piece {H : Type} {enc : TypeId × Value → H} {W : World} {base : Nat} {spare : Nat → Bool} {held : Bool} {n : Nat} {cs : List Value} {x : DataW H × List MemPlace} (h : DataW.trod enc Try.prog W base spare held n 31 cs = some x) :
    ∃ u l b, cs = [u] ∧ PV u l b W ∧ l ≤ maxLen := by
  rcases open_ints Try.underlying31 Try.underlying5 (by kernel_rfl) h with ⟨hcs, hx⟩ | ⟨a, len, cap, zs, hcs, _, hl, hm, hz, hd, hcell, hwz⟩
  · exact ⟨.slice none 0 0, 0, fun _ => 0#8, hcs, .inl ⟨rfl, rfl⟩, Nat.zero_le _⟩
  · have hlen : len ≤ zs.length := by rw [hz]; split <;> omega
    have hall : ∀ i, i < len → ∃ c : BitVec 8, zs.getD i 0 = (c.toNat : Int) := fun i hi => by
      refine of_wf8 (hwz _ ?_)
      rw [List.getD_eq_getElem?_getD, List.getElem?_eq_getElem (by omega), Option.getD_some]
      exact List.getElem_mem _
    refine ⟨.slice (some a) len cap, len, fun i => if h : i < len then (hall i h).choose else 0#8, hcs, .inr ⟨a, cap, rfl, hl, fun j hj => ?_⟩, by omega⟩
    rw [hcell j (by omega)]
    simp only [yv, dif_pos hj]
    rw [← (hall j hj).choose_spec]
set_option maxRecDepth 100000 in
theorem kept_cells {H : Type} {enc : TypeId × Value → H} {W : World} {base : Nat} {spare : Nat → Bool} {held : Bool} {n : Nat} {cs : List Value} {x : DataW H × List MemPlace} (h : DataW.trod enc Try.prog W base spare held n 65 cs = some x) :
    ∃ a b : Int, cs = [.int .i64 a, .int .i64 b] ∧ okI a ∧ okI b := by
  have c3 : Try.prog.cellsOf 3 = 1 := by kernel_rfl
  have c65 : Try.prog.cellsOf 65 = 2 := by kernel_rfl
  obtain ⟨y0, y1, n', _, hl, h0, h1⟩ := trod_struct2 Try.underlying65 h
  rw [c65] at hl
  match cs, hl with
  | [v0, v1], _ =>
    simp only [c3, List.drop_succ_cons, List.drop_zero, List.take_succ_cons, List.take_zero] at h0 h1
    obtain ⟨k, e0, _, w0⟩ := DataW.trod_int Try.underlying3 h0
    obtain ⟨m, e1, _, w1⟩ := DataW.trod_int Try.underlying3 h1
    simp only [List.cons.injEq, and_true] at e0 e1
    subst e0 e1
    exact ⟨k, m, rfl, w0, w1⟩
/-- a list of Kept that came in -/
def KP (q : Value) (n : Nat) (kb kw : Nat → Int) (w : World) : Prop := (q = .slice none 0 0 ∧ n = 0) ∨ ∃ a cap, q = .slice (some a) n cap ∧ n ≤ cap ∧ ∀ j, j < n * 2 → w.cell? (a.add j) = some (kpV kb kw j)
theorem KP.ext {q : Value} {n : Nat} {kb kw : Nat → Int} {w X : World} (h : KP q n kb kw w) (k : Ext w X) : KP q n kb kw X := by
  rcases h with h | ⟨a, cap, h1, h2, h3⟩
  · exact .inl h
  · exact .inr ⟨a, cap, h1, h2, fun j hj => cell_ext k (h3 j hj)⟩
theorem KP.form {q : Value} {n : Nat} {kb kw : Nat → Int} {w : World} (h : KP q n kb kw w) : ∃ o cap, q = .slice o n cap := by
  rcases h with ⟨rfl, rfl⟩ | ⟨a, cap, rfl, _⟩
  · exact ⟨_, _, rfl⟩
  · exact ⟨_, _, rfl⟩
theorem PV.form {u : Value} {l : Nat} {b : Nat → BitVec 8} {w : World} (h : PV u l b w) : ∃ o cap, u = .slice o l cap := by
  rcases h with ⟨rfl, rfl⟩ | ⟨a, cap, rfl, _⟩
  · exact ⟨_, _, rfl⟩
  · exact ⟨_, _, rfl⟩
set_option maxRecDepth 100000 in
theorem open_keep {H : Type} {enc : TypeId × Value → H} {W : World} {base : Nat} {spare : Nat → Bool} {held : Bool} {n : Nat} {cs : List Value} {x : DataW H × List MemPlace} (h : DataW.trod enc Try.prog W base spare held n 32 cs = some x) :
    ∃ q k kb kw, cs = [q] ∧ KP q k kb kw W ∧ k ≤ maxLen ∧ (∀ i, i < k → okI (kb i) ∧ okI (kw i)) ∧ ((x.1 = .nil ∧ k = 0) ∨ ∃ e s, x.1 = .slice e s ∧ e.length = k) := by
  have c65 : Try.prog.cellsOf 65 = 2 := by kernel_rfl
  rcases Go.Deep.open_slice Try.underlying32 h with ⟨hcs, hx⟩ | ⟨a, l, c, m, nn, D, Pl, hcs, _, hl, hm, hmm, hx, hall⟩
  · exact ⟨_, 0, fun _ => 0, fun _ => 0, hcs, .inl ⟨rfl, rfl⟩, Nat.zero_le _, fun i hi => by omega, .inl ⟨by rw [hx], rfl⟩⟩
  · have hlm : l ≤ m := by rw [hmm]; split <;> omega
    have each : ∀ i, i < l → ∃ y : Int × Int, (∀ j, j < 2 → W.cell? (a.add (i * 2 + j)) = some (kpI y.1 y.2 j)) ∧ okI y.1 ∧ okI y.2 := by
      intro i hi
      obtain ⟨cs', h1, h2⟩ := hall i (by omega)
      rw [c65] at h1
      obtain ⟨_, hlen, hcell⟩ := World.cells?_some h1
      obtain ⟨k, mm, rfl, hk, hm2⟩ := kept_cells h2
      refine ⟨(k, mm), fun j hj => ?_, hk, hm2⟩
      have e := hcell j (by omega)
      rw [add_add] at e
      rw [e]
      rcases (by omega : j = 0 ∨ j = 1) with rfl | rfl <;> rfl
    obtain ⟨y, hy⟩ := Go.Deep.choose_lt each
    refine ⟨.slice (some a) l c, l, fun i => (y i).1, fun i => (y i).2, hcs, .inr ⟨a, c, rfl, hl, fun j hj => ?_⟩, by omega, fun i hi => (hy i hi).2, .inr ⟨_, _, by rw [hx], by simp⟩⟩
    have e := (hy (j / 2) (by omega)).1 (j % 2) (Nat.mod_lt _ (by decide))
    rw [show j / 2 * 2 + j % 2 = j by omega] at e
    exact e
set_option maxRecDepth 100000 in
theorem op_cells {H : Type} {enc : TypeId × Value → H} {W : World} {base : Nat} {spare : Nat → Bool} {held : Bool} {n : Nat} {cs : List Value} {x : DataW H × List MemPlace} (h : DataW.trod enc Try.prog W base spare held n 34 cs = some x) :
    ∃ (k m : Int) (u : Value) (bad : Bool) (q : Value), cs = [.int .i64 k, .int .i64 m, u, .bool bad, q] ∧ okI m ∧ (∃ l b, PV u l b W ∧ l ≤ maxLen) ∧ ∃ kk kb kw, KP q kk kb kw W ∧ kk ≤ maxLen ∧ ∀ i, i < kk → okI (kb i) ∧ okI (kw i) := by
  have c3 : Try.prog.cellsOf 3 = 1 := by kernel_rfl
  have c4 : Try.prog.cellsOf 4 = 1 := by kernel_rfl
  have c31 : Try.prog.cellsOf 31 = 1 := by kernel_rfl
  have c32 : Try.prog.cellsOf 32 = 1 := by kernel_rfl
  have c34 : Try.prog.cellsOf 34 = 5 := by kernel_rfl
  obtain ⟨mm, hl, hf⟩ := trod_st (fs := [_, _, _, _, _]) Try.underlying34 h
  obtain ⟨y0, h0⟩ := hf 0 _ rfl
  obtain ⟨y1, h1⟩ := hf 1 _ rfl
  obtain ⟨y2, h2⟩ := hf 2 _ rfl
  obtain ⟨y3, h3⟩ := hf 3 _ rfl
  obtain ⟨y4, h4⟩ := hf 4 _ rfl
  rw [c34] at hl
  match cs, hl with
  | [v0, v1, v2, v3, v4], _ =>
    simp only [c3, c4, c31, c32, List.drop_succ_cons, List.drop_zero, List.take_succ_cons, List.take_zero] at h0 h1 h2 h3 h4
    obtain ⟨k, e0, _, _⟩ := DataW.trod_int Try.underlying3 h0
    obtain ⟨m, e1, _, w1⟩ := DataW.trod_int Try.underlying3 h1
    obtain ⟨u, l, b, e2, hp, hl⟩ := open_piece h2
    obtain ⟨bd, e3, _⟩ := DataW.trod_bool Try.underlying4 h3
    obtain ⟨q, kk, kb, kw, e4, hq, hkk, hok, _⟩ := open_keep h4
    simp only [List.cons.injEq, and_true] at e0 e1 e2 e3 e4
    subst e0 e1 e2 e3 e4
    exact ⟨k, m, _, bd, _, rfl, w1, ⟨l, b, hp, hl⟩, kk, kb, kw, hq, hkk, hok⟩
set_option maxRecDepth 100000 in
theorem open_op5 {H : Type} {enc : TypeId × Value → H} {W : World} {r : Reach} {b0 base : Nat} {spare : Nat → Bool} {held : Bool} {v : Value} {d : DataW H} {p : List MemPlace}
    (hv : Value.okWide Try.prog W r b0 34 v) (h : DataW.Trod enc Try.prog W base spare held 34 v d p) : ∃ (k m : Int) (bo : Option Addr) (bl bc : Nat) (bad : Bool) (ko : Option Addr) (kl kc : Nat), v = .agg #[.int .i64 k, .int .i64 m, .slice bo bl bc, .bool bad, .slice ko kl kc] := by
  obtain ⟨cs, rfl, _, _⟩ := okWide_st Try.underlying34 hv
  obtain ⟨fuel, hf⟩ := h
  obtain ⟨k, m, u, bad, q, hc, _, ⟨l, b, hp, _⟩, kk, kb, kw, hq, _⟩ := op_cells hf
  obtain ⟨bo, bc, rfl⟩ := hp.form
  obtain ⟨ko, kc, rfl⟩ := hq.form
  refine ⟨k, m, bo, l, bc, bad, ko, kk, kc, ?_⟩
  congr 1
  apply Array.ext'
  exact hc
end Go.Proofs.Ytfaeieaelfjlpaa
