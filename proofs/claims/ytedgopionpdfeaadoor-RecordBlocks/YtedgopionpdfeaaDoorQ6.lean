/-
  The small functions on a Hash, for every Hash in every world. Cells copied into a row; a whole array loaded in a region that draws its order; bytes that lie behind an address.
-/
import Derived.Test.YtedgopionpdfeaaDoorQ4
import Derived.Test.YtedgopionpdfeaaDoorQ5
import Derived.Laws.IdiomCopy
namespace Go.Proofs.YtedgopionpdfeaaDoor
open Go.RowKit Go.BigFrame
/-- what a Hash holds: a state, bytes that wait, how many came -/
def hv (s : Nat → BitVec 32) (p : Nat → BitVec 8) (n : Nat) (j : Nat) : Value := if j < 8 then wv s j else if j < 72 then yv p (j - 8) else .int .i64 (n : Int)
def HashAt (c : Nat) (s : Nat → BitVec 32) (p : Nat → BitVec 8) (n : Nat) (w : World) : Prop := RowAt c 73 (hv s p n) w
section
variable {c n : Nat} {s : Nat → BitVec 32} {p : Nat → BitVec 8} {w : World}
theorem HashAt.len (h : HashAt c s p n w) : w.cell? ⟨c, 72, none⟩ = some (.int .i64 (n : Int)) := h.1 72 (by decide)
theorem HashAt.state (h : HashAt c s p n w) : w.rangeAt c 0 (row 8 (wv s)) := fun j v hx => by
  obtain ⟨hj, rfl⟩ := row_some hx
  have h1 := h.1 j (by omega)
  rw [show 0 + j = j by omega, h1]
  simp only [hv, if_pos hj]
theorem HashAt.piece (h : HashAt c s p n w) : w.rangeAt c 8 (row 64 (yv p)) := fun j v hx => by
  obtain ⟨hj, rfl⟩ := row_some hx
  have h1 := h.1 (8 + j) (by omega)
  rw [h1]
  simp only [hv, if_neg (show ¬ (8 + j < 8) by omega), if_pos (show 8 + j < 72 by omega), yv, show 8 + j - 8 = j by omega]
end
theorem waiting_any (c n : Nat) (s : Nat → BitVec 32) (p : Nat → BitVec 8) (w : World) (h : HashAt c s p n w) :
    Calls Tryd.prog 76 #[.pointer (some ⟨c, 0, none⟩)] w fun e w' => e = .returned (.int .i64 ((n % 64 : Nat) : Int)) ∧ w' = w := by
  have e0 := h.len
  clear h
  have n0 : (0 : Int) ≤ (n : Int) := by omega
  go_enter Tryd.func76, Tryd.ntmps76
  go_wp2
  go_ret
  exact ⟨ret_int (by omega), rfl⟩
theorem nil_write (v : Value) (w : World) : Calls Tryd.prog 66 #[.pointer none, v] w fun e w' => e = .returned (.tuple #[]) ∧ w' = w := by
  go_enter Tryd.func66, Tryd.ntmps66
  go_wp2
  exact bodyPost_ret (v := .tuple #[]) (by simp [results, Tryd.results66]) rfl ⟨rfl, rfl⟩
theorem zero48 (w : World) : Sem.run Tryd.prog (zeroValue 110) w = .ok (.agg (row 73 (hv (fun _ => 0#32) (fun _ => 0#8) 0)).toArray) w := by kernel_rfl
theorem info48 : (Tryd.prog.info? 110).map (·.size) = some 73 := by kernel_rfl
/-- a byte of a digest -/
def digF (s : Nat → BitVec 32) (j : Nat) : BitVec 8 := (s (j / 4) >>> (24 - 8 * (j % 4))).setWidth 8
theorem dig_fact (a : BitVec 32) (k : Nat) : (a.toNat : Int) / 2 ^ k % 256 = (((a >>> k).setWidth 8).toNat : Int) := by
  rw [BitVec.toNat_setWidth, BitVec.toNat_ushiftRight, Nat.shiftRight_eq_div_pow]
  simp
set_option maxRecDepth 20000 in
set_option maxHeartbeats 1000000 in
theorem digest_any (s : Nat → BitVec 32) (w : World) :
    Calls Tryd.prog 78 #[.agg (row 8 (wv s)).toArray] w fun e w' => e = .returned (.agg (row 32 (yv (digF s))).toArray) ∧ Below w.heap.size w w' := by
  have hz := zero24
  go_enter Tryd.func78, Tryd.ntmps78
  go_wp2
  go_loopw [5] (fun i wr => ∃ n : Nat, n ≤ 32 ∧ i = .int .i64 n ∧ RowAt w.heap.size 8 (wv s) wr ∧ RowAt (w.heap.size + 1) 32 (yv fun _ => 0#8) wr ∧ RowAt (w.heap.size + 1 + 1) 32 (yv fun j => if j < n then digF s j else 0#8) wr ∧ Below w.heap.size w wr) (fun i _ => 32 - (intOf i).toNat)
  case atStart =>
    refine ⟨0, by omega, rfl, ?_, ?_, ?_, ?_⟩
    · exact ((RowAt.new w 8 (wv s) 95).alloc _).alloc _
    · have := (RowAt.new (w.alloc (Obj.cells (row 8 (wv s)).toArray 95)) 32 (yv fun _ => 0#8) 74).alloc (Obj.cells (row 32 (yv fun _ => 0#8)).toArray 74)
      simpa using this
    · have := RowAt.new ((w.alloc (Obj.cells (row 8 (wv s)).toArray 95)).alloc (Obj.cells (row 32 (yv fun _ => 0#8)).toArray 74)) 32 (yv fun _ => 0#8) 74
      exact RowAt.congr (g := yv fun _ => 0#8) (by simpa using this) fun j _ => by simp [yv]
    · exact (((Below.refl _ _).alloc (Nat.le_refl _) _).alloc (by simp) _).alloc (by simp; omega) _
  case round =>
    obtain ⟨n, hn, rfl, h1, h2, h3, h4⟩ := hrel
    by_cases hlt : n < 32
    · have H1 := hideit h1
      have H2 := hideit h2
      have H3 := hideit h3
      have H4 := hideit h4
      have e1 := h1.1 (n / 4) (by omega)
      have e3 := h3.1 n hlt
      have g3 := h3.2.1 n hlt
      clear h1 h2 h3 h4
      simp only [wv] at e1
      have i0 : (0 : Int) ≤ (n : Int) := by omega
      have i1 : (n : Int) < 32 := by omega
      have b1 := (s (n / 4)).isLt
      go_wp2
      rw [dig_fact]
      refine ⟨⟨n + 1, by omega, by go_num, H1.out.other _ _ (by simp; omega), H2.out.other _ _ (by simp), (H3.out.set n _).congr fun j _ => ?_, H4.out.setCell (by simp; omega) _⟩, by simp [intOf]; omega⟩
      simp only [yv]
      by_cases e : j = n
      · subst e; rw [if_pos rfl, if_pos (by omega)]; rfl
      · rw [if_neg e]
        by_cases h : j < n
        · rw [if_pos h, if_pos (by omega)]
        · rw [if_neg h, if_neg (by omega)]
    · obtain rfl : n = 32 := by omega
      have HR := hideit (h3.congr (g' := yv (digF s)) fun j hj => by simp only [yv]; rw [if_pos hj])
      have HR0 := hideit h2
      have hB := hideit h4
      clear h1 h2 h3 h4
      go_wp2_with (first | (refine wpList_load_mid rfl 74 (.tmp 3) rfl _ 0 rfl (row 32 (yv (digF s))) _ HR.out.range Tryd.underlying74 rfl (by rw [row_length]; exact info24) ?_) | (refine wpList_store_mid rfl 74 (.tmp 2) (.tmp 21) rfl _ 0 (row 32 (yv (digF s))).toArray rfl rfl (by rw [row_size]; exact HR0.out.there) (by rw [row_size]; exact info24) (row_one fun _ _ => rfl) ?_))
      exact bodyPost_ret (ret_row Tryd.results78 rfl (HR0.out.cells (g' := yv (digF s))) Tryd.underlying74 rfl info24) rfl ⟨rfl, below_setCells _ (by omega) _ _ _ hB.out⟩
set_option maxRecDepth 20000 in
set_option maxHeartbeats 1000000 in
theorem new_any (w : World) : Calls Tryd.prog 65 #[] w fun e w' => ∃ c, w.heap.size ≤ c ∧ e = .returned (.pointer (some ⟨c, 0, none⟩)) ∧ HashAt c fT (fun _ => 0#8) 0 w' ∧ Ext w w' := by
  have hb : ∀ X, (Instr.build 110 #[(0, .agg (row 8 (wv fT)).toArray)]).run Tryd.prog X = .ok (.agg (row 73 (hv fT (fun _ => 0#8) 0)).toArray) X := fun X => by kernel_rfl
  have hf := first_any
  obtain ⟨f, hfe⟩ : ∃ f, f = fT := ⟨_, rfl⟩
  rw [← hfe] at hf hb ⊢
  clear hfe
  replace hf := hideit hf
  go_enter Tryd.func65, Tryd.ntmps65
  go_upto_region 1 with (fail)
  refine wp_region_lit ?_
  refine wpList_call rfl (by simp [go_sem]) ((hf.out _).mono ?_)
  rintro e w2 ⟨rfl, hw2⟩
  refine ⟨_, rfl, ?_⟩
  refine wpList_build rfl 110 [(0, .tmp 1)] rfl _ (hb _) ?_
  simp only [Act.put, List.setIfInBounds_toArray, List.set_cons_zero, List.set_cons_succ]
  go_wp2
  go_ret
  exact ⟨w2.heap.size, hw2.size, rfl, RowAt.new w2 73 _ 110, Ext.trans hw2 ((Below.refl _ _).alloc (Nat.le_refl _) _)⟩
theorem load48 (X : World) (c n : Nat) (s : Nat → BitVec 32) (p : Nat → BitVec 8) (h : HashAt c s p n X) : X.rangeAt c 0 (row 73 (hv s p n)) := RowAt.range h
end Go.Proofs.YtedgopionpdfeaaDoor
namespace Go.Proofs.YtedgopionpdfeaaDoor
open Go.RowKit Go.BigFrame
/-- n cells behind an address -/
def LieAt (a : Addr) (n : Nat) (g : Nat → Value) (w : World) : Prop := (∀ j, j < n → w.cell? (a.add j) = some (g j)) ∧ a.block < w.heap.size
theorem LieAt.below {a : Addr} {n B : Nat} {g : Nat → Value} {w X : World} (h : LieAt a n g w) (hb : a.block < B) (hB : Below B w X) : LieAt a n g X :=
  ⟨fun j hj => (hB.cell (p := a.add j) (by unfold Addr.add; split <;> exact hb)).trans (h.1 j hj), Nat.lt_of_lt_of_le h.2 hB.size⟩
theorem LieAt.carry {a : Addr} {n : Nat} {g : Nat → Value} {w X : World} (h : LieAt a n g w) (hB : Ext w X) : LieAt a n g X := h.below h.2 hB
theorem add_block (a : Addr) (j : Nat) : (a.add j).block = a.block := by unfold Addr.add; split <;> rfl
theorem LieAt.but {a : Addr} {n c : Nat} {g : Nat → Value} {w X : World} (h : LieAt a n g w) (hB : But c w X) (hne : a.block ≠ c) : LieAt a n g X :=
  ⟨fun j hj => (hB.cell (a.add j) (by rw [add_block]; exact h.2) (by rw [add_block]; exact hne)).trans (h.1 j hj), Nat.lt_of_lt_of_le h.2 hB.size⟩
/-- some cells of a row, set -/
theorem RowAt.part {b n : Nat} {g : Nat → Value} {w : World} (h : RowAt b n g w) (off m : Nat) (u : Nat → Value) (hm : off + m ≤ n) : RowAt b n (fun j => if off ≤ j ∧ j < off + m then u (j - off) else g j) (w.setCells b off (row m u)) := by
  refine ⟨fun j hj => ?_, fun j hj => ?_, ?_⟩
  · show (w.setCells b off (row m u)).cell? ⟨b, j, none⟩ = some (if off ≤ j ∧ j < off + m then u (j - off) else g j)
    by_cases hin : off ≤ j ∧ j < off + m
    · rw [if_pos hin]
      have h1 := World.cell?_setCells_in b (row m u) off w (fun i hi => by
        rw [row_length] at hi
        rw [h.1 (off + i) (by omega)]; rfl) (j - off) (by rw [row_length]; omega)
      rw [show off + (j - off) = j by omega] at h1
      rw [h1]
      congr 1
      have h2 := row_get m u (j - off) (by omega)
      rw [List.getElem?_eq_getElem (by rw [row_length]; omega)] at h2
      exact Option.some.inj h2
    · rw [if_neg hin, World.cell?_setCells_out b (row m u) off w ⟨b, j, none⟩ (fun _ _ => by rw [row_length]; show j < off ∨ off + m ≤ j; omega)]
      exact h.1 j hj
  · rw [World.frozen?_setCells]; exact h.2.1 j hj
  · rw [size_setCells]; exact h.2.2
/-- cells copied into a row -/
theorem wpList_copy_row {P : Program} {w : World} {ops : Array Oper} {rest : List Oper} {o : Oper} {a : Act} {Q : Exit → Act → World → Prop} (hgd : o.guard = none) (d s : Operand) (dT sT : TypeId)
    (ho : o.op = .call { callee := .builtin .copy, args := #[d, s], argTypes := #[dT, sT] }) (elem : TypeId) (hu : P.underlying dT = some (.slice elem)) (hsz : (P.info? elem).map (·.size) = some 1)
    (b n : Nat) (g : Nat → Value) (hR : RowAt b n g w) (off dLen dCap : Nat) (ad : Addr) (sLen sCap : Nat) (hd : a.eval d = .slice (some ⟨b, off, none⟩) dLen dCap) (hs : a.eval s = .slice (some ad) sLen sCap)
    (m : Nat) (u : Nat → Value) (hn : m = Nat.min sLen dLen) (hsrc : ∀ j, j < m → w.cell? (ad.add j) = some (u j)) (hfit : off + m ≤ n) (h1 : ∀ j, j < m → (u j).oneCell' = true)
    (h : wpList P ops Q rest (a.put o.dst (goInt m)) (w.setCells b off (row m u))) : wpList P ops Q (o :: rest) a w := by
  refine wpList_plain hgd fun K hK => ?_
  have hrun := run_copy_cells (P := P) w dT sT o.type elem b off dLen dCap ad sLen sCap (row m u) hu hsz (by rw [row_length]; exact hn) (fun j v hv => by obtain ⟨hj, rfl⟩ := row_some hv; exact hsrc j hj)
    (fun j hj => by rw [row_length] at hj; rw [hR.1 (off + j) (by omega)]; rfl) (fun j hj => by rw [row_length] at hj; exact hR.2.1 (off + j) (by omega)) (fun v hv => by
      obtain ⟨j, hj, rfl⟩ := List.mem_map.1 hv
      exact h1 j (by simpa using hj))
  rw [row_length] at hrun
  unfold Oper.wp
  simp [execOp, ho, resolve, invoke, builtin, hd, hs, hrun, Result.andThen]
  exact hK _ _ h
/-- a whole array, loaded in a region that draws its order -/
theorem loadQ {P : Program} {W : World} {K : Act → Prop} {op : Oper} {a : Act} (t : TypeId) (x : Operand) (b off n : Nat) (g : Nat → Value) {d : TypeDesc} (ho : op.op = .load t x) (hx : a.eval x = .pointer (some ⟨b, off, none⟩)) (hc : ∀ w', Ext W w' → w'.rangeAt b off (row n g))
    (hu : P.underlying t = some d) (hd : d.isRow = true) (hi : (P.info? t).map (·.size) = some n)
    (h : K (a.put op.dst (.agg (row n g).toArray))) : op.quiet P a (fun w' => ∃ k : Kept (Ext W), w' = k.w) K :=
  ⟨_, fun w hw => by
    obtain ⟨k, rfl⟩ := hw
    unfold Oper.quietAt execOp
    simp only [ho, hx, Instr.loadAt, Instr.sureAddr, Sem.run_bind, Sem.run_pure, Result.andThen_ok, run_loadVar_mid (P := P) k.w b off t (row n g) _ (hc _ k.ok) hu hd (by rw [row_length]; exact hi)]
    exact ⟨rfl, rfl⟩, h⟩
end Go.Proofs.YtedgopionpdfeaaDoor
