/-
  Epochs and keys as rows of cells; lists of epochs; may they be?
-/
import Derived.Test.YtomalmnpojcloaaSl4
namespace Go.Proofs.Ytomalmnpojcloaa
open Go.RowKit Go.BigFrame
/-- an epoch: its number, its wrapped keys -/
def epv (x : Int) (f : Nat → BitVec 8) : Nat → Value := fun j => if j = 0 then .int .i64 x else .int .u8 ((f (j - 1)).toNat : Int)
/-- keys: the list, the tag -/
def kyv (u : Value) (f : Nat → BitVec 8) : Nat → Value := fun j => if j = 0 then u else .int .u8 ((f (j - 1)).toNat : Int)
theorem epv_one (x : Int) (f : Nat → BitVec 8) : ∀ j, j < 65 → (epv x f j).oneCell' = true := fun j _ => by
  unfold epv
  by_cases h : j = 0
  · rw [if_pos h]; rfl
  · rw [if_neg h]; rfl
theorem kyv_one (oa : Option Addr) (n cp : Nat) (f : Nat → BitVec 8) : ∀ j, j < 33 → (kyv (.slice oa n cp) f j).oneCell' = true := fun j _ => by
  unfold kyv
  by_cases h : j = 0
  · rw [if_pos h]; rfl
  · rw [if_neg h]; rfl
theorem info51 : (Try.prog.info? 51).map (·.size) = some 65 := by kernel_rfl
theorem info37 : (Try.prog.info? 37).map (·.size) = some 33 := by kernel_rfl
def zk51 : Array Value := (row 65 (epv 0 zF)).toArray
theorem zc51 : zk51 = (row 65 (epv 0 zF)).toArray := rfl
theorem zero51 (w : World) : (zeroValue 51).run Try.prog w = .ok (.agg zk51) w := by kernel_rfl
theorem alloc51 {o : Oper} {a : Act} {w : World} (ho : o.op = .alloc 51) : (execOp a.eval o).run Try.prog w = .ok (.value (.pointer (some ⟨w.heap.size, 0, none⟩))) (w.alloc (.cells zk51 51)) := exec_alloc 51 zk51 ho (zero51 w)
def zk37 : Array Value := #[.slice none 0 0, .int .u8 0, .int .u8 0, .int .u8 0, .int .u8 0, .int .u8 0, .int .u8 0, .int .u8 0, .int .u8 0, .int .u8 0, .int .u8 0, .int .u8 0, .int .u8 0, .int .u8 0, .int .u8 0, .int .u8 0, .int .u8 0, .int .u8 0, .int .u8 0, .int .u8 0, .int .u8 0, .int .u8 0, .int .u8 0, .int .u8 0, .int .u8 0, .int .u8 0, .int .u8 0, .int .u8 0, .int .u8 0, .int .u8 0, .int .u8 0, .int .u8 0, .int .u8 0]
theorem zc37 : zk37 = (row 33 (kyv (.slice none 0 0) zF)).toArray := by kernel_rfl
theorem made51 (w : World) (x : Int) (f : Nat → BitVec 8) : RowAt w.heap.size 65 (epv 0 zF) (w.alloc (.cells zk51 51)) ∧ Ext w (w.alloc (.cells zk51 51)) ∧ RowAt w.heap.size 65 (epv x f) ((w.alloc (.cells zk51 51)).setCells w.heap.size 0 (row 65 (epv x f))) ∧ Ext w ((w.alloc (.cells zk51 51)).setCells w.heap.size 0 (row 65 (epv x f))) := by
  rw [zc51]
  have h1 := RowAt.new w 65 (epv 0 zF) 51
  have h2 : Ext w (w.alloc (.cells (row 65 (epv 0 zF)).toArray 51)) := (Below.refl _ _).alloc (Nat.le_refl _) _
  exact ⟨h1, h2, h1.cells, below_setCells _ (Nat.le_refl _) _ _ _ h2⟩
theorem made37 (w : World) (u : Value) (f : Nat → BitVec 8) : RowAt w.heap.size 33 (kyv (.slice none 0 0) zF) (w.alloc (.cells zk37 37)) ∧ Ext w (w.alloc (.cells zk37 37)) ∧ RowAt w.heap.size 33 (kyv u f) ((w.alloc (.cells zk37 37)).setCells w.heap.size 0 (row 33 (kyv u f))) ∧ Ext w ((w.alloc (.cells zk37 37)).setCells w.heap.size 0 (row 33 (kyv u f))) := by
  rw [zc37]
  have h1 := RowAt.new w 33 (kyv (.slice none 0 0) zF) 37
  have h2 : Ext w (w.alloc (.cells (row 33 (kyv (.slice none 0 0) zF)).toArray 37)) := (Below.refl _ _).alloc (Nat.le_refl _) _
  exact ⟨h1, h2, h1.cells, below_setCells _ (Nat.le_refl _) _ _ _ h2⟩
/-- n epochs, one behind the other -/
def EpAt (a o n : Nat) (xs : Nat → Int) (fs : Nat → Nat → BitVec 8) (w : World) : Prop := ∀ i, i < n → ∀ j, j < 65 → w.cell? ⟨a, o + i * 65 + j, none⟩ = some (epv (xs i) (fs i) j)
/-- a list of n epochs, nil or not -/
def EV (v : Value) (n : Nat) (xs : Nat → Int) (fs : Nat → Nat → BitVec 8) (w : World) : Prop := (v = .slice none 0 0 ∧ n = 0) ∨ ∃ a o cap, v = .slice (some ⟨a, o, none⟩) n cap ∧ n ≤ cap ∧ EpAt a o n xs fs w
theorem cell_ext {w X : World} (k : Ext w X) {a : Addr} {v : Value} (h : w.cell? a = some v) : X.cell? a = some v := (Below.cell k (p := a) (World.block_lt_of_cell? w a h)).trans h
theorem EpAt.ext {a o n : Nat} {xs : Nat → Int} {fs : Nat → Nat → BitVec 8} {w X : World} (h : EpAt a o n xs fs w) (k : Ext w X) : EpAt a o n xs fs X := fun i hi j hj => cell_ext k (h i hi j hj)
theorem EpAt.lt {a o n : Nat} {xs : Nat → Int} {fs : Nat → Nat → BitVec 8} {w : World} (h : EpAt a o n xs fs w) (hn : 0 < n) : a < w.heap.size := World.block_lt_of_cell? w _ (h 0 hn 0 (by decide))
theorem EpAt.below {a o n B : Nat} {xs : Nat → Int} {fs : Nat → Nat → BitVec 8} {w X : World} (h : EpAt a o n xs fs w) (hB : a < B) (k : Below B w X) : EpAt a o n xs fs X := fun i hi j hj => (Below.cell k (p := ⟨a, o + i * 65 + j, none⟩) hB).trans (h i hi j hj)
theorem EpAt.but {a o n c : Nat} {xs : Nat → Int} {fs : Nat → Nat → BitVec 8} {w X : World} (h : EpAt a o n xs fs w) (k : But c w X) (hc : a ≠ c) : EpAt a o n xs fs X := fun i hi j hj => (But.cell k ⟨a, o + i * 65 + j, none⟩ (World.block_lt_of_cell? w _ (h i hi j hj)) hc).trans (h i hi j hj)
theorem EV.ext {v : Value} {n : Nat} {xs : Nat → Int} {fs : Nat → Nat → BitVec 8} {w X : World} (h : EV v n xs fs w) (k : Ext w X) : EV v n xs fs X := by
  rcases h with h | ⟨a, o, cap, h1, h2, h3⟩
  · exact .inl h
  · exact .inr ⟨a, o, cap, h1, h2, h3.ext k⟩
theorem EV.form {v : Value} {n : Nat} {xs : Nat → Int} {fs : Nat → Nat → BitVec 8} {w : World} (h : EV v n xs fs w) : ∃ oa cp, v = .slice oa n cp := by
  rcases h with ⟨h, h0⟩ | ⟨a, o, cap, h, _⟩
  · exact ⟨none, 0, by rw [h, h0]⟩
  · exact ⟨_, cap, h⟩
theorem EpAt.range {a o n : Nat} {xs : Nat → Int} {fs : Nat → Nat → BitVec 8} {w : World} (h : EpAt a o n xs fs w) (i : Nat) (hi : i < n) : w.rangeAt a (o + i * 65) (row 65 (epv (xs i) (fs i))) := fun j v hv => by
  obtain ⟨hj, rfl⟩ := row_some hv
  exact h i hi j hj
/-- may an epoch of that number stand there? -/
def okX (xs : Nat → Int) (i : Nat) : Prop := 1 ≤ xs i ∧ xs i ≤ 4294967295 ∧ xs i = xs 0 + (i : Int)
def okE (n : Nat) (xs : Nat → Int) : Prop := (n = 1 ∨ n = 2) ∧ ∀ i, i < n → okX xs i
def inW (n : Nat) (xs : Nat → Int) : Prop := ∀ i, i < n → -9223372036854775808 ≤ xs i ∧ xs i ≤ 9223372036854775807
theorem maybe_len (oa : Option Addr) (n cp : Nat) (hn : ¬ (n = 1 ∨ n = 2)) (w : World) : Calls Try.prog 29 #[.slice oa n cp] w fun e w' => e = .returned (.bool false) ∧ Ext w w' := by
  have h1 : ((n : Int) != 1) = true := by rw [bne_iff_ne]; omega
  have h2 : ((n : Int) != 2) = true := by rw [bne_iff_ne]; omega
  clear hn
  go_enter Try.func29, Try.ntmps29
  go_wp2
  go_ret
  exact ⟨rfl, Ext.refl _⟩
set_option maxRecDepth 20000 in
set_option maxHeartbeats 2000000 in
theorem maybe_1 (a o n cp : Nat) (xs : Nat → Int) (fs : Nat → Nat → BitVec 8) (w : World) (h : EpAt a o n xs fs w) (hn : n = 1) (hw : inW n xs) (R : Bool) (hR : Hid (R = true ↔ okE n xs)) :
    Calls Try.prog 29 #[.slice (some ⟨a, o, none⟩) n cp] w fun e w' => e = .returned (.bool R) ∧ Ext w w' := by
  have q0 : Hid (0 < n) := hideit (by omega)
  have q2 : n ≤ 2 := by omega
  have q2' : (n : Int) ≤ 2 := by omega
  have q1' : (0 : Int) ≤ (n : Int) := by omega
  have c1 : ((n : Int) != 1) = false := by rw [hn]; rfl
  have hn9 : Hid (n = 1 ∨ n = 2) := hideit (by omega)
  replace h := hideit h
  replace hw := hideit hw
  clear hn
  go_enter Try.func29, Try.ntmps29
  go_upto_region 3 with (fail)
  go_wp2
  go_loopw [15] (fun iv wr => ∃ i : Nat, i ≤ n ∧ iv = .int .i64 (i : Int) ∧ Ext w wr ∧ ∀ k, k < i → okX xs k) (fun iv _ => n - (intOf iv).toNat)
  case atStart => exact ⟨0, by omega, rfl, Ext.refl _, fun k hk => by omega⟩
  case round =>
    obtain ⟨i, hi, rfl, hE, hok⟩ := hrel
    replace hE := hideit hE
    replace hok := hideit hok
    by_cases hlt : i < n
    · have i0 : (0 : Int) ≤ (i : Int) := by omega
      have i1 : (i : Int) < (n : Int) := by omega
      have hE1 := hideit (h.out.ext hE.out)
      obtain ⟨H1, hA1, H2, hA2⟩ := made51 wr (xs i) (fs i)
      obtain ⟨s, hs⟩ : ∃ s, s = wr.heap.size := ⟨_, rfl⟩
      rw [← hs] at H1 H2 hA2
      go_upto_region 5 with (fail)
      refine wp_region_lit ?_
      refine wpList_run rfl (.int .i64 (i : Int)) (by simp [go_sem]) ?_
      simp only [Act.put, List.setIfInBounds_toArray, List.set_cons_zero, List.set_cons_succ]
      refine wpList_run rfl (.pointer (some ⟨a, o + i * 65, none⟩)) (by simp [go_sem, i0, i1]) ?_
      simp only [Act.put, List.setIfInBounds_toArray, List.set_cons_zero, List.set_cons_succ]
      refine wpList_load_mid rfl 51 (.tmp 18) rfl a (o + i * 65) rfl (row 65 (epv (xs i) (fs i))) _ (hE1.out.range i hlt) Try.underlying51 rfl (by rw [row_length]; exact info51) ?_
      simp only [Act.put, List.setIfInBounds_toArray, List.set_cons_zero, List.set_cons_succ]
      refine wpList_to rfl (.pointer (some ⟨s, 0, none⟩)) (wr.alloc (.cells zk51 51)) (by rw [hs]; exact alloc51 rfl) ?_
      simp only [Act.put, List.setIfInBounds_toArray, List.set_cons_zero, List.set_cons_succ]
      refine wpList_run rfl (.int .i64 (i : Int)) (by simp [go_sem]) ?_
      simp only [Act.put, List.setIfInBounds_toArray, List.set_cons_zero, List.set_cons_succ]
      refine wpList_store_mid rfl 51 (.tmp 4) (.tmp 19) rfl s 0 (row 65 (epv (xs i) (fs i))).toArray rfl rfl (by rw [row_size]; exact H1.there) (by rw [row_size]; exact info51) (row_one (epv_one _ _)) ?_
      rw [show (row 65 (epv (xs i) (fs i))).toArray.toList = row 65 (epv (xs i) (fs i)) from rfl]
      have e0 : ((wr.alloc (.cells zk51 51)).setCells s 0 (row 65 (epv (xs i) (fs i)))).cell? ⟨s, 0, none⟩ = some (.int .i64 (xs i)) := H2.1 0 (by decide)
      have e1 : ((wr.alloc (.cells zk51 51)).setCells s 0 (row 65 (epv (xs i) (fs i)))).cell? ⟨a, o, none⟩ = some (.int .i64 (xs 0)) := (hE1.out.ext hA2) 0 q0.out 0 (by decide)
      have hE2 := hideit (Ext.trans hE.out hA2)
      clear H1 hA1 H2 hA2 hs hE1 hE
      generalize (wr.alloc (.cells zk51 51)).setCells s 0 (row 65 (epv (xs i) (fs i))) = w2 at *
      simp only [Act.put]
      obtain ⟨x1, x2⟩ := hw.out i hlt
      obtain ⟨z1, z2⟩ := hw.out 0 q0.out
      obtain ⟨X, hX⟩ : ∃ X, X = xs i := ⟨_, rfl⟩
      obtain ⟨Z, hZ⟩ : ∃ Z, Z = xs 0 := ⟨_, rfl⟩
      rw [← hX] at e0 x1 x2 ⊢
      rw [← hZ] at e1 z1 z2
      replace hX := hideit hX
      replace hZ := hideit hZ
      have hi0 : Hid (i = 0 → X = Z) := hideit (fun h => by rw [hX.out, hZ.out, h])
      have hz1 : Hid (¬ i = 0 → 1 ≤ Z ∧ Z ≤ 4294967295) := hideit (fun h => by have := hok.out 0 (by omega); rw [hZ.out]; exact ⟨this.1, this.2.1⟩)
      have i2 : i ≤ 1 := by omega
      go_upto_region 6 with (fail)
      by_cases c1 : X < 1
      · go_quiet (fail)
        go_wp2
        go_ret
        refine ⟨ret_bool ?_, hE2.out.trans (ext_drewN _ _)⟩
        cases hRR : R with
        | false => rfl
        | true => have := (hR.out.1 hRR).2 i hlt; unfold okX at this; rw [← hX.out] at this; omega
      · have c1' : 1 ≤ X := by omega
        have hu : IntKind.u64.wrap X = X := by rw [IntKind.wrap_u64]; omega
        by_cases c2 : 4294967295 < X
        · go_quiet (fail)
          go_wp2
          go_ret
          refine ⟨ret_bool ?_, hE2.out.trans (ext_drewN _ _)⟩
          cases hRR : R with
          | false => rfl
          | true => have := (hR.out.1 hRR).2 i hlt; unfold okX at this; rw [← hX.out] at this; omega
        · have z3 : 1 ≤ Z ∧ Z ≤ 4294967295 := by
            by_cases h0 : i = 0
            · have := hi0.out h0; omega
            · exact hz1.out h0
          obtain ⟨z3, z4⟩ := z3
          by_cases c3 : X = Z + (i : Int)
          · have hc3 : Hid (X = Z + (i : Int)) := hideit c3
            have c4 : (X != Z + (i : Int)) = false := by rw [c3]; simp
            clear c3
            go_quiet (fail)
            go_wp2
            refine ⟨⟨i + 1, by omega, by go_num, hE2.out.trans (ext_drewN _ _), fun k hk => ?_⟩, by simp [intOf]; omega⟩
            by_cases hk2 : k < i
            · exact hok.out k hk2
            · obtain rfl : k = i := by omega
              unfold okX
              rw [← hX.out, ← hZ.out]
              exact ⟨c1', by omega, hc3.out⟩
          · have c4 : (X != Z + (i : Int)) = true := by rw [bne_iff_ne]; exact c3
            go_quiet (fail)
            go_wp2
            go_ret
            refine ⟨ret_bool ?_, hE2.out.trans (ext_drewN _ _)⟩
            cases hRR : R with
            | false => rfl
            | true => have := (hR.out.1 hRR).2 i hlt; unfold okX at this; rw [← hX.out, ← hZ.out] at this; omega
    · have i1 : ¬ (i : Int) < (n : Int) := by omega
      have hRt : Hid (R = true) := hideit (hR.out.2 ⟨hn9.out, fun k hk => hok.out k (by omega)⟩)
      go_wp2
      go_ret
      exact ⟨ret_bool hRt.out.symm, hE.out⟩
set_option maxRecDepth 20000 in
set_option maxHeartbeats 2000000 in
theorem maybe_2 (a o n cp : Nat) (xs : Nat → Int) (fs : Nat → Nat → BitVec 8) (w : World) (h : EpAt a o n xs fs w) (hn : n = 2) (hw : inW n xs) (R : Bool) (hR : Hid (R = true ↔ okE n xs)) :
    Calls Try.prog 29 #[.slice (some ⟨a, o, none⟩) n cp] w fun e w' => e = .returned (.bool R) ∧ Ext w w' := by
  have q0 : Hid (0 < n) := hideit (by omega)
  have q2 : n ≤ 2 := by omega
  have q2' : (n : Int) ≤ 2 := by omega
  have q1' : (0 : Int) ≤ (n : Int) := by omega
  have c1 : ((n : Int) != 1) = true := by rw [hn]; rfl
  have c2 : ((n : Int) != 2) = false := by rw [hn]; rfl
  have hn9 : Hid (n = 1 ∨ n = 2) := hideit (by omega)
  replace h := hideit h
  replace hw := hideit hw
  clear hn
  go_enter Try.func29, Try.ntmps29
  go_upto_region 3 with (fail)
  go_wp2
  go_loopw [15] (fun iv wr => ∃ i : Nat, i ≤ n ∧ iv = .int .i64 (i : Int) ∧ Ext w wr ∧ ∀ k, k < i → okX xs k) (fun iv _ => n - (intOf iv).toNat)
  case atStart => exact ⟨0, by omega, rfl, Ext.refl _, fun k hk => by omega⟩
  case round =>
    obtain ⟨i, hi, rfl, hE, hok⟩ := hrel
    replace hE := hideit hE
    replace hok := hideit hok
    by_cases hlt : i < n
    · have i0 : (0 : Int) ≤ (i : Int) := by omega
      have i1 : (i : Int) < (n : Int) := by omega
      have hE1 := hideit (h.out.ext hE.out)
      obtain ⟨H1, hA1, H2, hA2⟩ := made51 wr (xs i) (fs i)
      obtain ⟨s, hs⟩ : ∃ s, s = wr.heap.size := ⟨_, rfl⟩
      rw [← hs] at H1 H2 hA2
      go_upto_region 5 with (fail)
      refine wp_region_lit ?_
      refine wpList_run rfl (.int .i64 (i : Int)) (by simp [go_sem]) ?_
      simp only [Act.put, List.setIfInBounds_toArray, List.set_cons_zero, List.set_cons_succ]
      refine wpList_run rfl (.pointer (some ⟨a, o + i * 65, none⟩)) (by simp [go_sem, i0, i1]) ?_
      simp only [Act.put, List.setIfInBounds_toArray, List.set_cons_zero, List.set_cons_succ]
      refine wpList_load_mid rfl 51 (.tmp 18) rfl a (o + i * 65) rfl (row 65 (epv (xs i) (fs i))) _ (hE1.out.range i hlt) Try.underlying51 rfl (by rw [row_length]; exact info51) ?_
      simp only [Act.put, List.setIfInBounds_toArray, List.set_cons_zero, List.set_cons_succ]
      refine wpList_to rfl (.pointer (some ⟨s, 0, none⟩)) (wr.alloc (.cells zk51 51)) (by rw [hs]; exact alloc51 rfl) ?_
      simp only [Act.put, List.setIfInBounds_toArray, List.set_cons_zero, List.set_cons_succ]
      refine wpList_run rfl (.int .i64 (i : Int)) (by simp [go_sem]) ?_
      simp only [Act.put, List.setIfInBounds_toArray, List.set_cons_zero, List.set_cons_succ]
      refine wpList_store_mid rfl 51 (.tmp 4) (.tmp 19) rfl s 0 (row 65 (epv (xs i) (fs i))).toArray rfl rfl (by rw [row_size]; exact H1.there) (by rw [row_size]; exact info51) (row_one (epv_one _ _)) ?_
      rw [show (row 65 (epv (xs i) (fs i))).toArray.toList = row 65 (epv (xs i) (fs i)) from rfl]
      have e0 : ((wr.alloc (.cells zk51 51)).setCells s 0 (row 65 (epv (xs i) (fs i)))).cell? ⟨s, 0, none⟩ = some (.int .i64 (xs i)) := H2.1 0 (by decide)
      have e1 : ((wr.alloc (.cells zk51 51)).setCells s 0 (row 65 (epv (xs i) (fs i)))).cell? ⟨a, o, none⟩ = some (.int .i64 (xs 0)) := (hE1.out.ext hA2) 0 q0.out 0 (by decide)
      have hE2 := hideit (Ext.trans hE.out hA2)
      clear H1 hA1 H2 hA2 hs hE1 hE
      generalize (wr.alloc (.cells zk51 51)).setCells s 0 (row 65 (epv (xs i) (fs i))) = w2 at *
      simp only [Act.put]
      obtain ⟨x1, x2⟩ := hw.out i hlt
      obtain ⟨z1, z2⟩ := hw.out 0 q0.out
      obtain ⟨X, hX⟩ : ∃ X, X = xs i := ⟨_, rfl⟩
      obtain ⟨Z, hZ⟩ : ∃ Z, Z = xs 0 := ⟨_, rfl⟩
      rw [← hX] at e0 x1 x2 ⊢
      rw [← hZ] at e1 z1 z2
      replace hX := hideit hX
      replace hZ := hideit hZ
      have hi0 : Hid (i = 0 → X = Z) := hideit (fun h => by rw [hX.out, hZ.out, h])
      have hz1 : Hid (¬ i = 0 → 1 ≤ Z ∧ Z ≤ 4294967295) := hideit (fun h => by have := hok.out 0 (by omega); rw [hZ.out]; exact ⟨this.1, this.2.1⟩)
      have i2 : i ≤ 1 := by omega
      go_upto_region 6 with (fail)
      by_cases c1 : X < 1
      · go_quiet (fail)
        go_wp2
        go_ret
        refine ⟨ret_bool ?_, hE2.out.trans (ext_drewN _ _)⟩
        cases hRR : R with
        | false => rfl
        | true => have := (hR.out.1 hRR).2 i hlt; unfold okX at this; rw [← hX.out] at this; omega
      · have c1' : 1 ≤ X := by omega
        have hu : IntKind.u64.wrap X = X := by rw [IntKind.wrap_u64]; omega
        by_cases c2 : 4294967295 < X
        · go_quiet (fail)
          go_wp2
          go_ret
          refine ⟨ret_bool ?_, hE2.out.trans (ext_drewN _ _)⟩
          cases hRR : R with
          | false => rfl
          | true => have := (hR.out.1 hRR).2 i hlt; unfold okX at this; rw [← hX.out] at this; omega
        · have z3 : 1 ≤ Z ∧ Z ≤ 4294967295 := by
            by_cases h0 : i = 0
            · have := hi0.out h0; omega
            · exact hz1.out h0
          obtain ⟨z3, z4⟩ := z3
          by_cases c3 : X = Z + (i : Int)
          · have hc3 : Hid (X = Z + (i : Int)) := hideit c3
            have c4 : (X != Z + (i : Int)) = false := by rw [c3]; simp
            clear c3
            go_quiet (fail)
            go_wp2
            refine ⟨⟨i + 1, by omega, by go_num, hE2.out.trans (ext_drewN _ _), fun k hk => ?_⟩, by simp [intOf]; omega⟩
            by_cases hk2 : k < i
            · exact hok.out k hk2
            · obtain rfl : k = i := by omega
              unfold okX
              rw [← hX.out, ← hZ.out]
              exact ⟨c1', by omega, hc3.out⟩
          · have c4 : (X != Z + (i : Int)) = true := by rw [bne_iff_ne]; exact c3
            go_quiet (fail)
            go_wp2
            go_ret
            refine ⟨ret_bool ?_, hE2.out.trans (ext_drewN _ _)⟩
            cases hRR : R with
            | false => rfl
            | true => have := (hR.out.1 hRR).2 i hlt; unfold okX at this; rw [← hX.out, ← hZ.out] at this; omega
    · have i1 : ¬ (i : Int) < (n : Int) := by omega
      have hRt : Hid (R = true) := hideit (hR.out.2 ⟨hn9.out, fun k hk => hok.out k (by omega)⟩)
      go_wp2
      go_ret
      exact ⟨ret_bool hRt.out.symm, hE.out⟩
theorem maybe_any (v : Value) (n : Nat) (xs : Nat → Int) (fs : Nat → Nat → BitVec 8) (w : World) (h : EV v n xs fs w) (hw : inW n xs) (R : Bool) (hR : R = true ↔ okE n xs) : Calls Try.prog 29 #[v] w fun e w' => e = .returned (.bool R) ∧ Ext w w' := by
  by_cases h1 : n = 1
  · rcases h with ⟨_, h0⟩ | ⟨a, o, cap, rfl, _, h⟩
    · omega
    · exact maybe_1 a o n cap xs fs w h h1 hw R hR
  · by_cases h2 : n = 2
    · rcases h with ⟨_, h0⟩ | ⟨a, o, cap, rfl, _, h⟩
      · omega
      · exact maybe_2 a o n cap xs fs w h h2 hw R hR
    · obtain ⟨oa, cp, rfl⟩ := h.form
      have hf : R = false := by
        cases hRR : R with
        | false => rfl
        | true => have := (hR.1 hRR).1; omega
      rw [hf]
      exact maybe_len oa n cp (by omega) w
end Go.Proofs.Ytomalmnpojcloaa
