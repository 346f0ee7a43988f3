/-
  The document's header of a block. Of two copies, which one counts: the document's answer.
-/
import Derived.Test.YtenlokmoijeehaaDoorGv
import Derived.Test.YtenlokmoijeehaaDoorGt
import Derived.Test.YtenlokmoijeehaaDoorGu
import Derived.Test.YtenlokmoijeehaaDoorGs
namespace Go.Proofs.YtenlokmoijeehaaDoor
open Go.RowKit Go.BigFrame
theorem wpOp_st {P : Program} {ops : Array Oper} {Q : Exit → Act → World → Prop} {i : Nat} {K : Act → World → Prop} {a : Act} {w : World} {o : Oper} (ho : ops[i]? = some o) (hw : Region.wanted o (yielded ops a.tmps) = true) (w' : World) (hr : (execOp a.eval o).run P w = .ok .skip w') (h : K (a.put o.dst undef) w') : wpOp P ops Q i K a w :=
  EffY.wpOp (R := fun u X => K (a.put o.dst u) X) ho (.inl ⟨hw, by rw [hr]; exact h⟩) fun _ _ h => h
theorem exec_build {P : Program} {o : Oper} {a : Act} {w : World} (t : TypeId) (l : List (Nat × Operand)) (ho : o.op = .build t l.toArray) (v : Value) (hr : (Instr.build t (l.map fun x => (x.1, a.eval x.2)).toArray).run P w = .ok v w) : (execOp a.eval o).run P w = .ok (.value v) w := by
  unfold execOp
  rw [ho]
  simp only [List.map_toArray, Sem.run_bind, hr, Result.andThen_ok, Sem.run_pure]
theorem exec_storeP {P : Program} {o : Oper} {a : Act} {w : World} (t : TypeId) (x y : Operand) (ho : o.op = .store t x y) (b off n m : Nat) (g g' : Nat → Value) (hx : a.eval x = .pointer (some ⟨b, off, none⟩)) (hy : a.eval y = .agg (row m g').toArray) (h : RowAt b n g w) (hm : off + m ≤ n)
    (hi : (P.info? t).map (·.size) = some m) (h1 : ∀ j, j < m → (g' j).oneCell' = true) : (execOp a.eval o).run P w = .ok .skip (w.setCells b off (row m g')) := by
  unfold execOp
  simp only [ho, hx, hy, Instr.storeAt, Instr.sureAddr, Sem.run_bind, Sem.run_pure, Result.andThen_ok, run_storeVar_mid (P := P) w b off t (row m g').toArray (by rw [row_size]; exact h.thereSub off m hm) (by rw [row_size]; exact hi) (row_one h1)]
theorem str_beq (n : Nat) (f g : Nat → BitVec 8) : ((bstr n fun j => ((f j).toNat : Int)).toList == (bstr n fun j => ((g j).toNat : Int)).toList) = eqN n f g := by
  rw [bstr_list, bstr_list, lst_beq]
theorem lie_cut {a : Addr} {n : Nat} {g : Nat → Value} {w : World} (h : LieAt a n g w) (k m : Nat) (hk : 0 < k) (hm : k + m ≤ n) : LieAt ⟨a.block, a.off + k, none⟩ m (fun j => g (k + j)) w :=
  ⟨fun j hj => by
    rw [add_none]
    exact lie_range h k m hk hm j _ (row_get m _ j hj), h.2⟩
theorem lie_one {a : Addr} {n : Nat} {b : Nat → BitVec 8} {w : World} (h : LieAt a n (yv b) w) (k : Nat) (hk : 0 < k) (hm : k < n) : w.cell? ⟨a.block, a.off + k, none⟩ = some (.int .u8 ((b k).toNat : Int)) :=
  lie_range h k 1 hk (by omega) 0 _ (row_get 1 _ 0 (by decide))
theorem cutV {a : Addr} {n : Nat} {b : Nat → BitVec 8} {w : World} (h : LieAt a n (yv b) w) (k m cap : Nat) (hk : 0 < k) (hm : k + m ≤ n) (hc : m ≤ cap) : BV (.slice (some ⟨a.block, a.off + k, none⟩) m cap) m (shF b k) w := .inr ⟨_, cap, rfl, hc, lie_cut h k m hk hm⟩
theorem cut8 (a : Addr) (cap : Nat) (h : 512 ≤ cap) (X : World) : Sem.run Tryd.prog (Instr.sliceAt 28 (.slice (some a) 512 cap) (some (.int .i64 8)) (some (.int .i64 16)) none) X = .ok (.slice (some ⟨a.block, a.off + 8, none⟩) 8 (cap - 8)) X := by
  have h1 : (16 : Int) ≤ (cap : Int) := by omega
  have h2 : ¬ cap = 8 := by omega
  simp [go_sem, h1, h2]
theorem cut16 (a : Addr) (cap : Nat) (h : 512 ≤ cap) (X : World) : Sem.run Tryd.prog (Instr.sliceAt 28 (.slice (some a) 512 cap) (some (.int .i64 16)) (some (.int .i64 20)) none) X = .ok (.slice (some ⟨a.block, a.off + 16, none⟩) 4 (cap - 16)) X := by
  have h1 : (20 : Int) ≤ (cap : Int) := by omega
  have h2 : ¬ cap = 16 := by omega
  simp [go_sem, h1, h2]
theorem cut21 (a : Addr) (cap : Nat) (h : 512 ≤ cap) (X : World) : Sem.run Tryd.prog (Instr.sliceAt 28 (.slice (some a) 512 cap) (some (.int .i64 21)) (some (.int .i64 23)) none) X = .ok (.slice (some ⟨a.block, a.off + 21, none⟩) 2 (cap - 21)) X := by
  have h1 : (23 : Int) ≤ (cap : Int) := by omega
  have h2 : ¬ cap = 21 := by omega
  simp [go_sem, h1, h2]
theorem cut25 (a : Addr) (cap : Nat) (h : 512 ≤ cap) (X : World) : Sem.run Tryd.prog (Instr.sliceAt 28 (.slice (some a) 512 cap) (some (.int .i64 25)) (some (.int .i64 27)) none) X = .ok (.slice (some ⟨a.block, a.off + 25, none⟩) 2 (cap - 25)) X := by
  have h1 : (27 : Int) ≤ (cap : Int) := by omega
  have h2 : ¬ cap = 25 := by omega
  simp [go_sem, h1, h2]
def upN (b : Nat → BitVec 8) (k : Nat) (j : Nat) : BitVec 8 := if j < k then b (28 + j) else 0#8
theorem bl27v (x : BitVec 64) (y1 y2 y3 y4 : Int) (w : World) : (Instr.build 27 #[(0, .int .u64 (x.toNat : Int)), (1, .int .i64 y1), (2, .int .i64 y2), (3, .int .i64 y3), (4, .int .i64 y4)]).run Tryd.prog w = .ok (.agg (row 24 (hdv ⟨x, y1, y2, y3, y4, 0, 0, 0, fun _ => 0#8⟩)).toArray) w := run_build w 27 _ _ (by kernel_rfl)
theorem bl24v (a b c : Int) (w : World) : (Instr.build 24 #[(0, .int .i64 a), (1, .int .i64 b), (2, .int .i64 c)]).run Tryd.prog w = .ok (.agg (row 3 (pav a b c)).toArray) w := run_build w 24 _ _ (by kernel_rfl)
theorem le1 (f : Nat → BitVec 8) : (leN f 1).toNat = (f 0).toNat := by
  rw [(leN_nat f 1 (by decide)).1]
  simp [leS]
theorem shsh (b : Nat → BitVec 8) (m n : Nat) : shF (shF b m) n = shF b (m + n) := funext fun j => by unfold shF; rw [Nat.add_assoc]
theorem ofB_eq (b : Nat → BitVec 8) : ofB b = ⟨leN (shF b 8) 8, ((leN (shF b 16) 4).toNat : Int), ((b 20).toNat : Int), ((leN (shF b 21) 2).toNat : Int), ((b 23).toNat : Int), ((b 24).toNat : Int), ((leN (shF b 25) 2).toNat : Int), ((b 27).toNat : Int), shF b 28⟩ := by
  unfold ofB
  simp only [shsh, Nat.reduceAdd, le1]
  rfl
theorem isH_of (b : Nat → BitVec 8) (hk : okH (ofB b)) (e : ∀ j, j < 512 → hbF (ofB b) j = b j) : isH 512 b := by
  obtain ⟨_, h1, h2, h3, _⟩ := isH_hb (ofB b) hk
  rw [eqN_iff] at h1 h2
  rw [zB_spec] at h3
  refine ⟨rfl, ?_, ?_, ?_, hk⟩
  · rw [eqN_iff]
    intro j hj
    rw [← e (480 + j) (by omega), ← h1 j hj, shaF_congr b (hbF (ofB b)) 480 fun i hi => (e i (by omega)).symm]
  · rw [eqN_iff]
    intro j hj
    rw [← e j (by omega), h2 j hj]
  · rw [zB_spec]
    intro j hj
    have h4 := h3 j hj
    simp only [shsh, Nat.reduceAdd] at h4 ⊢
    unfold shF at h4 ⊢
    rw [← e (44 + j) (by omega), h4]
set_option maxRecDepth 20000 in
set_option maxHeartbeats 2000000 in
theorem rdec_len (v : Value) (l : Nat) (b : Nat → BitVec 8) (w : World) (h : BV v l b w) (hl : l ≠ 512) :
    Calls Tryd.prog 17 #[v] w fun e w' => e = .returned (.tuple #[.agg (row 24 (hdv zH)).toArray, .int .i64 110]) ∧ Ext w w' := by
  obtain ⟨oa, cp, rfl⟩ := h.form
  have Q1 := hideit (RowAt.new w 24 (hdv zH) 27)
  have hE1 := hideit ((Below.refl w.heap.size w).alloc (Nat.le_refl _) (.cells (row 24 (hdv zH)).toArray 27))
  have hne : ¬ (l : Int) = 512 := by omega
  clear h hl
  go_enter Tryd.func17, Tryd.ntmps17
  go_upto_region 0 with (fail)
  refine wp_region_lit ?_
  refine wpList_to rfl (.pointer (some ⟨w.heap.size, 0, none⟩)) (w.alloc (.cells (row 24 (hdv zH)).toArray 27)) (exec_alloc 27 _ rfl (zeroH w)) ?_
  simp only [Act.put, List.setIfInBounds_toArray, List.set_cons_zero, List.set_cons_succ]
  generalize w.alloc (.cells (row 24 (hdv zH)).toArray 27) = w1 at *
  obtain ⟨q, hq⟩ : ∃ q, q = w.heap.size := ⟨_, rfl⟩
  have hwq : Hid (w.heap.size ≤ q) := hideit (by omega)
  rw [← hq] at Q1 ⊢
  clear hq
  go_upto_region 2 with (fail)
  refine wp_region_lit ?_
  refine wpList_build rfl 27 [] rfl (.agg (row 24 (hdv zH)).toArray) (buildH _) ?_
  simp only [Act.put, List.setIfInBounds_toArray, List.set_cons_zero, List.set_cons_succ]
  refine wpList_store_mid rfl 27 (.tmp 2) (.tmp 11) rfl q 0 (row 24 (hdv zH)).toArray rfl rfl (by rw [row_size]; exact Q1.out.there) (by rw [row_size]; exact infoH) (row_one fun j _ => hdv_one _ j) ?_
  rw [show (row 24 (hdv zH)).toArray.toList = row 24 (hdv zH) from rfl]
  have h9 : Hid (RowAt q 24 (hdv zH) (w1.setCells q 0 (row 24 (hdv zH)))) := hideit Q1.out.cells
  have hE9 := hideit (below_setCells q hwq.out (row 24 (hdv zH)) 0 _ hE1.out)
  generalize w1.setCells q 0 (row 24 (hdv zH)) = w9 at *
  clear Q1 hE1
  simp only [Act.put]
  go_wp2
  exact bodyPost_ret (ret_row2 Tryd.results17 rfl h9.out Tryd.underlying27 rfl infoH) rfl ⟨rfl, hE9.out⟩
set_option maxRecDepth 20000 in
set_option maxHeartbeats 2000000 in
theorem rdec_go (a : Addr) (cap : Nat) (b : Nat → BitVec 8) (w : World) (L : Hid (LieAt a 512 (yv b) w)) (hcap : Hid (512 ≤ cap)) (H : Hd) (hH : Hid (H = ofB b)) (D : Prop) (hP : Hid (D ↔ (okH H ∧ eqN 512 (hbF H) b = true))) :
    Calls Tryd.prog 17 #[.slice (some a) 512 cap] w fun e w' => (D → e = .returned (.tuple #[.agg (row 24 (hdv H)).toArray, .int .i64 0])) ∧ (¬ D → e = .returned (.tuple #[.agg (row 24 (hdv zH)).toArray, .int .i64 110])) ∧ Ext w w' := by
  have Q1 := hideit (RowAt.new w 24 (hdv zH) 27)
  have hE1 := hideit ((Below.refl w.heap.size w).alloc (Nat.le_refl _) (.cells (row 24 (hdv zH)).toArray 27))
  have hwl := L.out.2
  obtain ⟨y0, hy0⟩ : ∃ y, y = leN (shF b 8) 8 := ⟨_, rfl⟩
  obtain ⟨y1, hy1⟩ : ∃ y, y = leN (shF b 16) 4 := ⟨_, rfl⟩
  obtain ⟨y2, hy2⟩ : ∃ y, y = b 20 := ⟨_, rfl⟩
  obtain ⟨y3, hy3⟩ : ∃ y, y = leN (shF b 21) 2 := ⟨_, rfl⟩
  obtain ⟨y4, hy4⟩ : ∃ y, y = b 23 := ⟨_, rfl⟩
  obtain ⟨y5, hy5⟩ : ∃ y, y = b 24 := ⟨_, rfl⟩
  obtain ⟨y6, hy6⟩ : ∃ y, y = leN (shF b 25) 2 := ⟨_, rfl⟩
  obtain ⟨y7, hy7⟩ : ∃ y, y = b 27 := ⟨_, rfl⟩
  have hof : Hid (ofB b = ⟨y0, (y1.toNat : Int), (y2.toNat : Int), (y3.toNat : Int), (y4.toNat : Int), (y5.toNat : Int), (y6.toNat : Int), (y7.toNat : Int), shF b 28⟩) := hideit (by rw [ofB_eq, hy0, hy1, hy2, hy3, hy4, hy5, hy6, hy7])
  have i1 : IntKind.i64.wrap (y1.toNat : Int) = (y1.toNat : Int) := by
    have h3 : y1.toNat < 4294967296 := by
      rw [hy1, (leN_nat (shF b 16) 4 (by decide)).1]
      exact (leN_nat (shF b 16) 4 (by decide)).2
    rw [IntKind.wrap_i64]
    omega
  have i2 : IntKind.i64.wrap (y2.toNat : Int) = (y2.toNat : Int) := by have := y2.isLt; rw [IntKind.wrap_i64]; omega
  have i3 : IntKind.i64.wrap (y3.toNat : Int) = (y3.toNat : Int) := by
    have h3 : y3.toNat < 65536 := by
      rw [hy3, (leN_nat (shF b 21) 2 (by decide)).1]
      exact (leN_nat (shF b 21) 2 (by decide)).2
    rw [IntKind.wrap_i64]
    omega
  have i4 : IntKind.i64.wrap (y4.toNat : Int) = (y4.toNat : Int) := by have := y4.isLt; rw [IntKind.wrap_i64]; omega
  have i5 : IntKind.i64.wrap (y5.toNat : Int) = (y5.toNat : Int) := by have := y5.isLt; rw [IntKind.wrap_i64]; omega
  have i6 : IntKind.i64.wrap (y6.toNat : Int) = (y6.toNat : Int) := by
    have h3 : y6.toNat < 65536 := by
      rw [hy6, (leN_nat (shF b 25) 2 (by decide)).1]
      exact (leN_nat (shF b 25) 2 (by decide)).2
    rw [IntKind.wrap_i64]
    omega
  have i7 : IntKind.i64.wrap (y7.toNat : Int) = (y7.toNat : Int) := by have := y7.isLt; rw [IntKind.wrap_i64]; omega
  have k0 : Hid (∀ X, Ext w X → Calls Tryd.prog 41 #[.slice (some ⟨a.block, a.off + 8, none⟩) 8 (cap - 8)] X fun e w' => e = .returned (.int .u64 (y0.toNat : Int)) ∧ w' = X) := hideit fun X hX => by rw [hy0]; exact value_any _ 8 _ X (cutV (L.out.carry hX) 8 8 _ (by decide) (by decide) (by have := hcap.out; omega)) (by decide)
  have k1 : Hid (∀ X, Ext w X → Calls Tryd.prog 41 #[.slice (some ⟨a.block, a.off + 16, none⟩) 4 (cap - 16)] X fun e w' => e = .returned (.int .u64 (y1.toNat : Int)) ∧ w' = X) := hideit fun X hX => by rw [hy1]; exact value_any _ 4 _ X (cutV (L.out.carry hX) 16 4 _ (by decide) (by decide) (by have := hcap.out; omega)) (by decide)
  have k3 : Hid (∀ X, Ext w X → Calls Tryd.prog 41 #[.slice (some ⟨a.block, a.off + 21, none⟩) 2 (cap - 21)] X fun e w' => e = .returned (.int .u64 (y3.toNat : Int)) ∧ w' = X) := hideit fun X hX => by rw [hy3]; exact value_any _ 2 _ X (cutV (L.out.carry hX) 21 2 _ (by decide) (by decide) (by have := hcap.out; omega)) (by decide)
  have k6 : Hid (∀ X, Ext w X → Calls Tryd.prog 41 #[.slice (some ⟨a.block, a.off + 25, none⟩) 2 (cap - 25)] X fun e w' => e = .returned (.int .u64 (y6.toNat : Int)) ∧ w' = X) := hideit fun X hX => by rw [hy6]; exact value_any _ 2 _ X (cutV (L.out.carry hX) 25 2 _ (by decide) (by decide) (by have := hcap.out; omega)) (by decide)
  have c2 : Hid (∀ X, Ext w X → X.cell? ⟨a.block, a.off + 20, none⟩ = some (.int .u8 (y2.toNat : Int))) := hideit fun X hX => by rw [hy2]; exact lie_one (L.out.carry hX) 20 (by decide) (by decide)
  have c4 : Hid (∀ X, Ext w X → X.cell? ⟨a.block, a.off + 23, none⟩ = some (.int .u8 (y4.toNat : Int))) := hideit fun X hX => by rw [hy4]; exact lie_one (L.out.carry hX) 23 (by decide) (by decide)
  have c5 : Hid (∀ X, Ext w X → X.cell? ⟨a.block, a.off + 24, none⟩ = some (.int .u8 (y5.toNat : Int))) := hideit fun X hX => by rw [hy5]; exact lie_one (L.out.carry hX) 24 (by decide) (by decide)
  have c7 : Hid (∀ X, Ext w X → X.cell? ⟨a.block, a.off + 27, none⟩ = some (.int .u8 (y7.toNat : Int))) := hideit fun X hX => by rw [hy7]; exact lie_one (L.out.carry hX) 27 (by decide) (by decide)
  have u8 := cut8 a cap hcap.out
  have u16 := cut16 a cap hcap.out
  have u21 := cut21 a cap hcap.out
  have u25 := cut25 a cap hcap.out
  clear hy0 hy1 hy2 hy3 hy4 hy5 hy6 hy7
  go_enter Tryd.func17, Tryd.ntmps17
  go_upto_region 0 with (fail)
  refine wp_region_lit ?_
  refine wpList_to rfl (.pointer (some ⟨w.heap.size, 0, none⟩)) (w.alloc (.cells (row 24 (hdv zH)).toArray 27)) (exec_alloc 27 _ rfl (zeroH w)) ?_
  simp only [Act.put, List.setIfInBounds_toArray, List.set_cons_zero, List.set_cons_succ]
  generalize w.alloc (.cells (row 24 (hdv zH)).toArray 27) = w1 at *
  obtain ⟨q, hq⟩ : ∃ q, q = w.heap.size := ⟨_, rfl⟩
  have hwq : Hid (w.heap.size ≤ q) := hideit (by omega)
  rw [← hq] at Q1 ⊢
  clear hq hwl
  go_upto_region 3 with (fail)
  rename_i K hKK
  have hK : ∀ (x8 x9 x10 x11 x12 x13 x14 x15 x16 x17 x18 x19 x20 x21 x22 x23 x24 x25 x26 x27 x28 x29 x30 x31 : Value) (s : Nat) (v3 : World), Hid (RowAt s 24 (hdv ⟨y0, (y1.toNat : Int), (y2.toNat : Int), (y3.toNat : Int), (y4.toNat : Int), 0, 0, 0, fun _ => 0#8⟩) v3) → Hid (RowAt q 24 (hdv zH) v3) → Hid (Ext w v3) → Hid (q < s) → Hid (w.heap.size ≤ s) → K ⟨#[.slice (some a) 512 cap, undef, .pointer (some ⟨q, 0, none⟩), .int .i64 0, .pointer (some ⟨s, 0, none⟩), undef, undef, undef, x8, x9, x10, x11, x12, x13, x14, x15, x16, x17, x18, x19, x20, x21, x22, x23, x24, x25, x26, x27, x28, x29, x30, x31, undef, undef, undef, undef, undef, undef, undef, undef, undef, undef, undef, undef, undef, undef, undef, undef, undef, undef, undef, undef, undef, undef, undef, undef, undef, undef, undef, undef, undef, undef, undef, undef, undef, undef, undef, undef, undef, undef, undef, undef, undef, undef], []⟩ v3 := by
    intro x8 x9 x10 x11 x12 x13 x14 x15 x16 x17 x18 x19 x20 x21 x22 x23 x24 x25 x26 x27 x28 x29 x30 x31 s v3 S3 Q3 hE3 hqs hws
    refine hKK _ _ ?_
    go_upto_region 4 with (fail)
    have S4 := hideit S3.out.drew
    have Q4 := hideit Q3.out.drew
    have hE4 := hideit (Ext.trans hE3.out (Ext.refl v3).draw)
    clear S3 Q3 hE3
    refine wp_region_lad (fun X => Ext w X) [(false, 0), (false, 1), (false, 2), (false, 3), (false, 4), (false, 5), (false, 8), (false, 9), (false, 10), (false, 11), (true, 6), (false, 7), (false, 12), (false, 13), (true, 14)] (by kernel_rfl) (by kernel_rfl) (by decide +kernel) (by decide +kernel) (by decide +kernel) (by decide +kernel) hE4.out ?_
    refine wpX_f _ (.slice (some a) 512 cap) rfl rfl (fun X _ => by simp [go_sem]) ?_
    simp only [List.getElem_toArray, List.getElem_cons_zero, Act.put, List.setIfInBounds_toArray, List.set_cons_zero, List.set_cons_succ]
    refine wpX_f _ (.pointer (some ⟨a.block, a.off + 24, none⟩)) rfl rfl (fun X _ => by simp [go_sem]) ?_
    simp only [List.getElem_toArray, List.getElem_cons_zero, List.getElem_cons_succ, Act.put, List.setIfInBounds_toArray, List.set_cons_zero, List.set_cons_succ]
    refine wpX_f _ (.int .u8 (y5.toNat : Int)) rfl rfl (fun X hX => by have e := c5.out X hX; simp [go_sem, e]) ?_
    simp only [List.getElem_toArray, List.getElem_cons_zero, List.getElem_cons_succ, Act.put, List.setIfInBounds_toArray, List.set_cons_zero, List.set_cons_succ]
    refine wpX_f _ (.int .i64 (y5.toNat : Int)) rfl rfl (fun X _ => by simp [go_sem, i5]) ?_
    simp only [List.getElem_toArray, List.getElem_cons_zero, List.getElem_cons_succ, Act.put, List.setIfInBounds_toArray, List.set_cons_zero, List.set_cons_succ]
    refine wpX_f _ (.slice (some a) 512 cap) rfl rfl (fun X _ => by simp [go_sem]) ?_
    simp only [List.getElem_toArray, List.getElem_cons_zero, List.getElem_cons_succ, Act.put, List.setIfInBounds_toArray, List.set_cons_zero, List.set_cons_succ]
    refine wpX_f _ (.slice (some ⟨a.block, a.off + 25, none⟩) 2 (cap - 25)) rfl rfl (fun X _ => by simp [go_sem, u25]) ?_
    simp only [List.getElem_toArray, List.getElem_cons_zero, List.getElem_cons_succ, Act.put, List.setIfInBounds_toArray, List.set_cons_zero, List.set_cons_succ]
    refine wpX_f _ (.slice (some a) 512 cap) rfl rfl (fun X _ => by simp [go_sem]) ?_
    simp only [List.getElem_toArray, List.getElem_cons_zero, List.getElem_cons_succ, Act.put, List.setIfInBounds_toArray, List.set_cons_zero, List.set_cons_succ]
    refine wpX_f _ (.pointer (some ⟨a.block, a.off + 27, none⟩)) rfl rfl (fun X _ => by simp [go_sem]) ?_
    simp only [List.getElem_toArray, List.getElem_cons_zero, List.getElem_cons_succ, Act.put, List.setIfInBounds_toArray, List.set_cons_zero, List.set_cons_succ]
    refine wpX_f _ (.int .u8 (y7.toNat : Int)) rfl rfl (fun X hX => by have e := c7.out X hX; simp [go_sem, e]) ?_
    simp only [List.getElem_toArray, List.getElem_cons_zero, List.getElem_cons_succ, Act.put, List.setIfInBounds_toArray, List.set_cons_zero, List.set_cons_succ]
    refine wpX_f _ (.int .i64 (y7.toNat : Int)) rfl rfl (fun X _ => by simp [go_sem, i7]) ?_
    simp only [List.getElem_toArray, List.getElem_cons_zero, List.getElem_cons_succ, Act.put, List.setIfInBounds_toArray, List.set_cons_zero, List.set_cons_succ]
    refine wpX_call _ rfl rfl (by simp [go_sem]) ((k6.out v3.drew hE4.out).mono ?_)
    rintro e X9 ⟨rfl, hX9⟩
    subst hX9
    refine ⟨_, rfl, fun X => Ext w X, fun X hX => hX, hE4.out, ?_⟩
    simp only [List.getElem_toArray, List.getElem_cons_zero, List.getElem_cons_succ, Act.put, List.setIfInBounds_toArray, List.set_cons_zero, List.set_cons_succ]
    refine wpX_f _ (.int .i64 (y6.toNat : Int)) rfl rfl (fun X _ => by simp [go_sem, i6]) ?_
    simp only [List.getElem_toArray, List.getElem_cons_zero, List.getElem_cons_succ, Act.put, List.setIfInBounds_toArray, List.set_cons_zero, List.set_cons_succ]
    refine wpX_f _ (.agg (row 3 (pav (y5.toNat : Int) (y6.toNat : Int) (y7.toNat : Int))).toArray) rfl rfl (fun X hX => exec_build 24 [(0, .tmp 35), (1, .tmp 39), (2, .tmp 43)] rfl _ (bl24v _ _ _ _)) ?_
    simp only [List.getElem_toArray, List.getElem_cons_zero, List.getElem_cons_succ, Act.put, List.setIfInBounds_toArray, List.set_cons_zero, List.set_cons_succ]
    refine wpX_f _ (.pointer (some ⟨s, 5, none⟩)) rfl rfl (fun X _ => by simp [go_sem]) ?_
    simp only [List.getElem_toArray, List.getElem_cons_zero, List.getElem_cons_succ, Act.put, List.setIfInBounds_toArray, List.set_cons_zero, List.set_cons_succ]
    have S5 := hideit ((S4.out.part 5 3 (pav (y5.toNat : Int) (y6.toNat : Int) (y7.toNat : Int)) (by decide)).congr (g' := hdv ⟨y0, (y1.toNat : Int), (y2.toNat : Int), (y3.toNat : Int), (y4.toNat : Int), (y5.toNat : Int), (y6.toNat : Int), (y7.toNat : Int), fun _ => 0#8⟩) fun j hj => by
      by_cases h : 5 ≤ j ∧ j < 5 + 3
      · rw [if_pos h]
        rcases (by omega : j = 5 ∨ j = 6 ∨ j = 7) with rfl | rfl | rfl <;> rfl
      · rw [if_neg h]
        unfold hdv
        rw [if_neg (show ¬ j = 5 by omega), if_neg (show ¬ j = 6 by omega), if_neg (show ¬ j = 7 by omega), if_neg (show ¬ j = 5 by omega), if_neg (show ¬ j = 6 by omega), if_neg (show ¬ j = 7 by omega)])
    have Q5 := hideit (Q4.out.cellsOther (c := s) (by have := hqs.out; omega) (row 3 (pav (y5.toNat : Int) (y6.toNat : Int) (y7.toNat : Int))) 5)
    have hE5 := hideit (below_setCells s hws.out (row 3 (pav (y5.toNat : Int) (y6.toNat : Int) (y7.toNat : Int))) 5 _ hE4.out)
    refine wpX_st _ (v3.drew.setCells s 5 (row 3 (pav (y5.toNat : Int) (y6.toNat : Int) (y7.toNat : Int)))) rfl rfl (exec_storeP 24 (.tmp 45) (.tmp 44) rfl s 5 24 3 _ (pav (y5.toNat : Int) (y6.toNat : Int) (y7.toNat : Int)) rfl rfl S4.out (by decide) infoP (fun j _ => by unfold pav; split <;> (try split) <;> rfl)) (fun X => Ext w X) (fun X hX => hX) hE5.out ?_
    simp only [List.getElem_toArray, List.getElem_cons_zero, List.getElem_cons_succ, Act.put]
    clear S4 Q4 hE4
    generalize v3.drew.setCells s 5 (row 3 (pav (y5.toNat : Int) (y6.toNat : Int) (y7.toNat : Int))) = v5 at *
    refine wpX_nil ?_
    clear i5 i6 i7 k6 c5 c7 u25
    go_wp2
    go_loopw [5] (fun iv wr => ∃ i : Nat, i ≤ 16 ∧ iv = .int .i64 (i : Int) ∧ RowAt s 24 (hdv ⟨y0, (y1.toNat : Int), (y2.toNat : Int), (y3.toNat : Int), (y4.toNat : Int), (y5.toNat : Int), (y6.toNat : Int), (y7.toNat : Int), upN b i⟩) wr ∧ RowAt q 24 (hdv zH) wr ∧ Ext w wr) (fun iv _ => 16 - (intOf iv).toNat)
    case atStart => exact ⟨0, by omega, rfl, S5.out, Q5.out, hE5.out⟩
    case round =>
      clear S5 Q5 hE5
      obtain ⟨i, hi, rfl, hS, hQ, hE⟩ := hrel
      have S3 := hideit hS
      have Q3 := hideit hQ
      have hE3 := hideit hE
      clear hS hQ hE
      by_cases hlt : i < 16
      · have i0 : (0 : Int) ≤ (i : Int) := by omega
        have i1 : (i : Int) < 16 := by omega
        have w28 : IntKind.i64.wrap ((28 : Int) + (i : Int)) = 28 + (i : Int) := by rw [IntKind.wrap_i64]; omega
        have n28 : (0 : Int) ≤ 28 + (i : Int) := by omega
        have m28 : (28 : Int) + (i : Int) < 512 := by omega
        have t28 : ((28 : Int) + (i : Int)).toNat = 28 + i := by omega
        have ec : wr.cell? (a.add (28 + i)) = some (.int .u8 ((b (28 + i)).toNat : Int)) := (L.out.carry hE3.out).1 (28 + i) (by omega)
        have es := S3.out.1 (8 + i) (by omega)
        have gs := S3.out.2.1 (8 + i) (by omega)
        go_wp2
        refine ⟨⟨i + 1, by omega, by go_num, ?_, Q3.out.other _ _ (by show s ≠ q; have := hqs.out; omega), Below.setCell hE3.out (by show w.heap.size ≤ s; exact hws.out) _⟩, by simp [intOf]; omega⟩
        refine (S3.out.set (8 + i) _).congr fun j _ => ?_
        by_cases h1 : j = 8 + i
        · rw [if_pos h1]
          unfold hdv
          rw [if_neg (by omega), if_neg (by omega), if_neg (by omega), if_neg (by omega), if_neg (by omega), if_neg (by omega), if_neg (by omega), if_neg (by omega)]
          show _ = Value.int .u8 ((upN b (i + 1) (j - 8)).toNat : Int)
          unfold upN
          rw [if_pos (by omega), show j - 8 = i by omega]
        · rw [if_neg h1]
          by_cases h2 : j < 8
          · rcases (by omega : j = 0 ∨ j = 1 ∨ j = 2 ∨ j = 3 ∨ j = 4 ∨ j = 5 ∨ j = 6 ∨ j = 7) with rfl | rfl | rfl | rfl | rfl | rfl | rfl | rfl <;> rfl
          · unfold hdv
            rw [if_neg (show ¬ j = 0 by omega), if_neg (show ¬ j = 1 by omega), if_neg (show ¬ j = 2 by omega), if_neg (show ¬ j = 3 by omega), if_neg (show ¬ j = 4 by omega), if_neg (show ¬ j = 5 by omega), if_neg (show ¬ j = 6 by omega), if_neg (show ¬ j = 7 by omega), if_neg (show ¬ j = 0 by omega), if_neg (show ¬ j = 1 by omega), if_neg (show ¬ j = 2 by omega), if_neg (show ¬ j = 3 by omega), if_neg (show ¬ j = 4 by omega), if_neg (show ¬ j = 5 by omega), if_neg (show ¬ j = 6 by omega), if_neg (show ¬ j = 7 by omega)]
            show Value.int .u8 ((upN b i (j - 8)).toNat : Int) = Value.int .u8 ((upN b (i + 1) (j - 8)).toNat : Int)
            unfold upN
            by_cases h3 : j - 8 < i
            · rw [if_pos h3, if_pos (by omega)]
            · rw [if_neg h3, if_neg (by omega)]
      · obtain rfl : i = 16 := by omega
        have i1 : ¬ ((16 : Nat) : Int) < 16 := by decide
        have S6 : Hid (RowAt s 24 (hdv H) wr) := hideit (S3.out.congr fun j hj => by
          rw [hH.out, hof.out]
          unfold hdv
          by_cases h2 : j < 8
          · rcases (by omega : j = 0 ∨ j = 1 ∨ j = 2 ∨ j = 3 ∨ j = 4 ∨ j = 5 ∨ j = 6 ∨ j = 7) with rfl | rfl | rfl | rfl | rfl | rfl | rfl | rfl <;> rfl
          · rw [if_neg (show ¬ j = 0 by omega), if_neg (show ¬ j = 1 by omega), if_neg (show ¬ j = 2 by omega), if_neg (show ¬ j = 3 by omega), if_neg (show ¬ j = 4 by omega), if_neg (show ¬ j = 5 by omega), if_neg (show ¬ j = 6 by omega), if_neg (show ¬ j = 7 by omega), if_neg (show ¬ j = 0 by omega), if_neg (show ¬ j = 1 by omega), if_neg (show ¬ j = 2 by omega), if_neg (show ¬ j = 3 by omega), if_neg (show ¬ j = 4 by omega), if_neg (show ¬ j = 5 by omega), if_neg (show ¬ j = 6 by omega), if_neg (show ¬ j = 7 by omega)]
            show Value.int .u8 ((upN b 16 (j - 8)).toNat : Int) = _
            unfold upN
            rw [if_pos (by omega)]
            rfl)
        clear S3 hof hH
        go_upto_region 9 with (fail)
        refine wp_region_lit ?_
        refine wpList_run rfl (.agg (row 24 (hdv H)).toArray) (exec_loadR 27 (.tmp 4) rfl s 0 24 _ rfl S6.out.range Tryd.underlying27 rfl infoH) ?_
        simp only [Act.put, List.setIfInBounds_toArray, List.set_cons_zero, List.set_cons_succ]
        by_cases hk : okH H
        · refine wpList_call rfl (by simp [go_sem]; exact ⟨rfl, rfl⟩) ?_
          refine (renc_ok H wr hk).mono ?_
          rintro e w6 ⟨v6, rfl, hV6, hX⟩
          refine ⟨_, rfl, ?_⟩
          simp only [Act.put, List.setIfInBounds_toArray, List.set_cons_zero, List.set_cons_succ]
          have Q7 := hideit (Q3.out.carry hX)
          have S7 := hideit (S6.out.carry hX)
          have hE7 := hideit (Ext.trans hE3.out hX)
          obtain ⟨o6, p6, rfl⟩ := hV6.form
          have hc1 := convV (.slice o6 512 p6) 512 _ w6 hV6
          have hc2 := convV (.slice (some a) 512 cap) 512 b w6 (.inr ⟨_, _, rfl, hcap.out, L.out.carry hE7.out⟩)
          have hst := str_beq 512 (hbF H) b
          obtain ⟨R, hR⟩ : ∃ R, R = eqN 512 (hbF H) b := ⟨_, rfl⟩
          rw [← hR] at hst hP
          obtain ⟨s1, hs1⟩ : ∃ s1, s1 = bstr 512 (fun j => ((hbF H j).toNat : Int)) := ⟨_, rfl⟩
          obtain ⟨s2, hs2⟩ : ∃ s2, s2 = bstr 512 (fun j => ((b j).toNat : Int)) := ⟨_, rfl⟩
          rw [← hs1] at hc1 hst
          rw [← hs2] at hc2 hst
          clear hs1 hs2 S6 Q3 hE3 hX hV6 hR
          go_upto_region 10 with (fail)
          refine wp_region_lit ?_
          refine wpList_run rfl (.int .i64 0) (by simp [go_sem]) ?_
          simp only [Act.put, List.setIfInBounds_toArray, List.set_cons_zero, List.set_cons_succ]
          refine wpList_run rfl (.bool false) (by simp [go_sem]) ?_
          simp only [Act.put, List.setIfInBounds_toArray, List.set_cons_zero, List.set_cons_succ]
          refine wpList_run rfl (.bool false) (by simp [go_sem]) ?_
          simp only [Act.put, List.setIfInBounds_toArray, List.set_cons_zero, List.set_cons_succ]
          refine wpList_runW rfl (.slice o6 512 p6) (by simp [go_sem]) ?_
          simp only [Act.put, List.setIfInBounds_toArray, List.set_cons_zero, List.set_cons_succ]
          refine wpList_runW rfl (.string s1) (by simp [go_sem, hc1]) ?_
          simp only [Act.put, List.setIfInBounds_toArray, List.set_cons_zero, List.set_cons_succ]
          refine wpList_runW rfl (.slice (some a) 512 cap) (by simp [go_sem]) ?_
          simp only [Act.put, List.setIfInBounds_toArray, List.set_cons_zero, List.set_cons_succ]
          refine wpList_runW rfl (.string s2) (by simp [go_sem, hc2]) ?_
          simp only [Act.put, List.setIfInBounds_toArray, List.set_cons_zero, List.set_cons_succ]
          refine wpList_runW rfl (.bool (!R)) (by simp only [← hst]; simp [go_sem]) ?_
          simp only [Act.put, List.setIfInBounds_toArray, List.set_cons_zero, List.set_cons_succ]
          refine wpList_run rfl (.bool (!R)) (by simp [go_sem]) ?_
          simp only [Act.put, List.setIfInBounds_toArray, List.set_cons_zero, List.set_cons_succ]
          clear hc1 hc2 hst
          cases R with
          | true =>
            have hy : Hid D := hideit (hP.out.2 ⟨hk, rfl⟩)
            clear hP hk
            go_upto_region 12 with (fail)
            refine wp_region_lit ?_
            refine wpList_run rfl (.agg (row 24 (hdv H)).toArray) (exec_loadR 27 (.tmp 4) rfl s 0 24 _ rfl S7.out.range Tryd.underlying27 rfl infoH) ?_
            simp only [Act.put, List.setIfInBounds_toArray, List.set_cons_zero, List.set_cons_succ]
            refine wpList_store_mid rfl 27 (.tmp 2) (.tmp 73) rfl q 0 (row 24 (hdv H)).toArray rfl rfl (by rw [row_size]; exact Q7.out.there) (by rw [row_size]; exact infoH) (row_one fun j _ => hdv_one _ j) ?_
            rw [show (row 24 (hdv H)).toArray.toList = row 24 (hdv H) from rfl]
            have h9 : Hid (RowAt q 24 (hdv H) (w6.setCells q 0 (row 24 (hdv H)))) := hideit Q7.out.cells
            have hE9 := hideit (below_setCells q hwq.out (row 24 (hdv H)) 0 _ hE7.out)
            generalize w6.setCells q 0 (row 24 (hdv H)) = w9 at *
            clear Q7 hE7 S7
            simp only [Act.put]
            go_wp2
            exact bodyPost_ret (ret_row2 Tryd.results17 rfl h9.out Tryd.underlying27 rfl infoH) rfl ⟨fun _ => rfl, fun hh => absurd hy.out hh, hE9.out⟩
          | false =>
            have hno : Hid (¬ D) := hideit (fun h => absurd (hP.out.1 h).2 (by decide))
            clear hP hk S7
            go_upto_region 11 with (fail)
            refine wp_region_lit ?_
            refine wpList_build rfl 27 [] rfl (.agg (row 24 (hdv zH)).toArray) (buildH _) ?_
            simp only [Act.put, List.setIfInBounds_toArray, List.set_cons_zero, List.set_cons_succ]
            refine wpList_store_mid rfl 27 (.tmp 2) (.tmp 72) rfl q 0 (row 24 (hdv zH)).toArray rfl rfl (by rw [row_size]; exact Q7.out.there) (by rw [row_size]; exact infoH) (row_one fun j _ => hdv_one _ j) ?_
            rw [show (row 24 (hdv zH)).toArray.toList = row 24 (hdv zH) from rfl]
            have h9 : Hid (RowAt q 24 (hdv zH) (w6.setCells q 0 (row 24 (hdv zH)))) := hideit Q7.out.cells
            have hE9 := hideit (below_setCells q hwq.out (row 24 (hdv zH)) 0 _ hE7.out)
            generalize w6.setCells q 0 (row 24 (hdv zH)) = w9 at *
            clear Q7 hE7
            simp only [Act.put]
            go_wp2
            exact bodyPost_ret (ret_row2 Tryd.results17 rfl h9.out Tryd.underlying27 rfl infoH) rfl ⟨fun hh => absurd hh hno.out, fun _ => rfl, hE9.out⟩
        · refine wpList_call rfl (by simp [go_sem]; exact ⟨rfl, rfl⟩) ?_
          refine (renc_no H wr hk).mono ?_
          rintro e w6 ⟨rfl, hX⟩
          refine ⟨_, rfl, ?_⟩
          simp only [Act.put, List.setIfInBounds_toArray, List.set_cons_zero, List.set_cons_succ]
          have Q7 := hideit (Q3.out.carry hX)
          have hE7 := hideit (Ext.trans hE3.out hX)
          have hno : Hid (¬ D) := hideit (fun h => hk (hP.out.1 h).1)
          clear S6 Q3 hE3 hX hP hk
          go_upto_region 11 with (fail)
          refine wp_region_lit ?_
          refine wpList_build rfl 27 [] rfl (.agg (row 24 (hdv zH)).toArray) (buildH _) ?_
          simp only [Act.put, List.setIfInBounds_toArray, List.set_cons_zero, List.set_cons_succ]
          refine wpList_store_mid rfl 27 (.tmp 2) (.tmp 72) rfl q 0 (row 24 (hdv zH)).toArray rfl rfl (by rw [row_size]; exact Q7.out.there) (by rw [row_size]; exact infoH) (row_one fun j _ => hdv_one _ j) ?_
          rw [show (row 24 (hdv zH)).toArray.toList = row 24 (hdv zH) from rfl]
          have h9 : Hid (RowAt q 24 (hdv zH) (w6.setCells q 0 (row 24 (hdv zH)))) := hideit Q7.out.cells
          have hE9 := hideit (below_setCells q hwq.out (row 24 (hdv zH)) 0 _ hE7.out)
          generalize w6.setCells q 0 (row 24 (hdv zH)) = w9 at *
          clear Q7 hE7
          simp only [Act.put]
          go_wp2
          exact bodyPost_ret (ret_row2 Tryd.results17 rfl h9.out Tryd.underlying27 rfl infoH) rfl ⟨fun hh => absurd hh hno.out, fun _ => rfl, hE9.out⟩
  have hD0 := Ext.trans hE1.out (Ext.refl w1).draw
  have hqs0 : q < w1.drew.heap.size := Q1.out.2.2
  have Q2 := Q1.out.drew
  obtain ⟨M1, M2, M3⟩ := made27 w1.drew ⟨y0, (y1.toNat : Int), (y2.toNat : Int), (y3.toNat : Int), (y4.toNat : Int), 0, 0, 0, fun _ => 0#8⟩
  refine wp_region_held (S := fun X => Ext w X) (by kernel_rfl) ?_
  show wpAnyH _ _ _ _ _ 22 _ _ w1.drew
  generalize w1.drew = W0 at *
  have hD1 : Ext w (W0.alloc (.cells (row 24 (hdv zH)).toArray 27)) := Ext.trans hD0 ((Below.refl _ _).alloc (Nat.le_refl _) _)
  refine wpAnyH_take (i := 0) (v := .slice (some a) 512 cap) rfl (by kernel_rfl) (by kernel_rfl) (by kernel_rfl) (fun _ _ _ h => h) (.inl ⟨rfl, fun X hX => by simp [go_sem]⟩) hD0 ?_
  simp only [List.getElem_toArray, List.getElem_cons_zero, Act.put, List.setIfInBounds_toArray, List.set_cons_zero, List.set_cons_succ]
  refine wpAnyH_take (i := 1) (v := .slice (some ⟨a.block, a.off + 8, none⟩) 8 (cap - 8)) rfl (by kernel_rfl) (by kernel_rfl) (by kernel_rfl) (fun _ _ _ h => h) (.inl ⟨rfl, fun X hX => by simp [go_sem, u8]⟩) hD0 ?_
  simp only [List.getElem_toArray, List.getElem_cons_zero, List.getElem_cons_succ, Act.put, List.setIfInBounds_toArray, List.set_cons_zero, List.set_cons_succ]
  refine wpAnyH_take (i := 3) (v := .slice (some a) 512 cap) rfl (by kernel_rfl) (by kernel_rfl) (by kernel_rfl) (fun _ _ _ h => h) (.inl ⟨rfl, fun X hX => by simp [go_sem]⟩) hD0 ?_
  simp only [List.getElem_toArray, List.getElem_cons_zero, List.getElem_cons_succ, Act.put, List.setIfInBounds_toArray, List.set_cons_zero, List.set_cons_succ]
  refine wpAnyH_take (i := 4) (v := .slice (some ⟨a.block, a.off + 16, none⟩) 4 (cap - 16)) rfl (by kernel_rfl) (by kernel_rfl) (by kernel_rfl) (fun _ _ _ h => h) (.inl ⟨rfl, fun X hX => by simp [go_sem, u16]⟩) hD0 ?_
  simp only [List.getElem_toArray, List.getElem_cons_zero, List.getElem_cons_succ, Act.put, List.setIfInBounds_toArray, List.set_cons_zero, List.set_cons_succ]
  refine wpAnyH_take (i := 7) (v := .slice (some a) 512 cap) rfl (by kernel_rfl) (by kernel_rfl) (by kernel_rfl) (fun _ _ _ h => h) (.inl ⟨rfl, fun X hX => by simp [go_sem]⟩) hD0 ?_
  simp only [List.getElem_toArray, List.getElem_cons_zero, List.getElem_cons_succ, Act.put, List.setIfInBounds_toArray, List.set_cons_zero, List.set_cons_succ]
  refine wpAnyH_take (i := 8) (v := .pointer (some ⟨a.block, a.off + 20, none⟩)) rfl (by kernel_rfl) (by kernel_rfl) (by kernel_rfl) (fun _ _ _ h => h) (.inl ⟨rfl, fun X hX => by simp [go_sem]⟩) hD0 ?_
  simp only [List.getElem_toArray, List.getElem_cons_zero, List.getElem_cons_succ, Act.put, List.setIfInBounds_toArray, List.set_cons_zero, List.set_cons_succ]
  refine wpAnyH_take (i := 9) (v := .int .u8 (y2.toNat : Int)) rfl (by kernel_rfl) (by kernel_rfl) (by kernel_rfl) (fun _ _ _ h => h) (.inl ⟨rfl, fun X hX => by have e := c2.out X hX; simp [go_sem, e]⟩) hD0 ?_
  simp only [List.getElem_toArray, List.getElem_cons_zero, List.getElem_cons_succ, Act.put, List.setIfInBounds_toArray, List.set_cons_zero, List.set_cons_succ]
  refine wpAnyH_take (i := 10) (v := .int .i64 (y2.toNat : Int)) rfl (by kernel_rfl) (by kernel_rfl) (by kernel_rfl) (fun _ _ _ h => h) (.inl ⟨rfl, fun X hX => by simp [go_sem, i2]⟩) hD0 ?_
  simp only [List.getElem_toArray, List.getElem_cons_zero, List.getElem_cons_succ, Act.put, List.setIfInBounds_toArray, List.set_cons_zero, List.set_cons_succ]
  refine wpAnyH_take (i := 11) (v := .slice (some a) 512 cap) rfl (by kernel_rfl) (by kernel_rfl) (by kernel_rfl) (fun _ _ _ h => h) (.inl ⟨rfl, fun X hX => by simp [go_sem]⟩) hD0 ?_
  simp only [List.getElem_toArray, List.getElem_cons_zero, List.getElem_cons_succ, Act.put, List.setIfInBounds_toArray, List.set_cons_zero, List.set_cons_succ]
  refine wpAnyH_take (i := 12) (v := .slice (some ⟨a.block, a.off + 21, none⟩) 2 (cap - 21)) rfl (by kernel_rfl) (by kernel_rfl) (by kernel_rfl) (fun _ _ _ h => h) (.inl ⟨rfl, fun X hX => by simp [go_sem, u21]⟩) hD0 ?_
  simp only [List.getElem_toArray, List.getElem_cons_zero, List.getElem_cons_succ, Act.put, List.setIfInBounds_toArray, List.set_cons_zero, List.set_cons_succ]
  refine wpAnyH_take (i := 15) (v := .slice (some a) 512 cap) rfl (by kernel_rfl) (by kernel_rfl) (by kernel_rfl) (fun _ _ _ h => h) (.inl ⟨rfl, fun X hX => by simp [go_sem]⟩) hD0 ?_
  simp only [List.getElem_toArray, List.getElem_cons_zero, List.getElem_cons_succ, Act.put, List.setIfInBounds_toArray, List.set_cons_zero, List.set_cons_succ]
  refine wpAnyH_take (i := 16) (v := .pointer (some ⟨a.block, a.off + 23, none⟩)) rfl (by kernel_rfl) (by kernel_rfl) (by kernel_rfl) (fun _ _ _ h => h) (.inl ⟨rfl, fun X hX => by simp [go_sem]⟩) hD0 ?_
  simp only [List.getElem_toArray, List.getElem_cons_zero, List.getElem_cons_succ, Act.put, List.setIfInBounds_toArray, List.set_cons_zero, List.set_cons_succ]
  refine wpAnyH_take (i := 17) (v := .int .u8 (y4.toNat : Int)) rfl (by kernel_rfl) (by kernel_rfl) (by kernel_rfl) (fun _ _ _ h => h) (.inl ⟨rfl, fun X hX => by have e := c4.out X hX; simp [go_sem, e]⟩) hD0 ?_
  simp only [List.getElem_toArray, List.getElem_cons_zero, List.getElem_cons_succ, Act.put, List.setIfInBounds_toArray, List.set_cons_zero, List.set_cons_succ]
  refine wpAnyH_take (i := 18) (v := .int .i64 (y4.toNat : Int)) rfl (by kernel_rfl) (by kernel_rfl) (by kernel_rfl) (fun _ _ _ h => h) (.inl ⟨rfl, fun X hX => by simp [go_sem, i4]⟩) hD0 ?_
  simp only [List.getElem_toArray, List.getElem_cons_zero, List.getElem_cons_succ, Act.put, List.setIfInBounds_toArray, List.set_cons_zero, List.set_cons_succ]
  refine wpAnyH_all (rs := [2, 20]) (by kernel_rfl) (by decide) ?_
  intro i hi
  rcases (by simpa using hi : i = 2 ∨ i = 20) with rfl | rfl
  · refine wpOp_call rfl rfl (by simp [go_sem]) ((k0.out W0 hD0).mono ?_)
    rintro e X9 ⟨rfl, hX9⟩
    rw [hX9]
    clear hX9 X9
    refine ⟨_, rfl, hD0, ?_⟩
    simp only [List.getElem_toArray, List.getElem_cons_zero, List.getElem_cons_succ, Act.put, List.setIfInBounds_toArray, List.set_cons_zero, List.set_cons_succ]
    refine wpAnyH_all (rs := [5, 20]) (by kernel_rfl) (by decide) ?_
    intro i hi
    rcases (by simpa using hi : i = 5 ∨ i = 20) with rfl | rfl
    · refine wpOp_call rfl rfl (by simp [go_sem]) ((k1.out W0 hD0).mono ?_)
      rintro e X9 ⟨rfl, hX9⟩
      rw [hX9]
      clear hX9 X9
      refine ⟨_, rfl, hD0, ?_⟩
      simp only [List.getElem_toArray, List.getElem_cons_zero, List.getElem_cons_succ, Act.put, List.setIfInBounds_toArray, List.set_cons_zero, List.set_cons_succ]
      refine wpAnyH_take (i := 6) (v := .int .i64 (y1.toNat : Int)) rfl (by kernel_rfl) (by kernel_rfl) (by kernel_rfl) (fun _ _ _ h => h) (.inl ⟨rfl, fun X hX => by simp [go_sem, i1]⟩) hD0 ?_
      simp only [List.getElem_toArray, List.getElem_cons_zero, List.getElem_cons_succ, Act.put, List.setIfInBounds_toArray, List.set_cons_zero, List.set_cons_succ]
      refine wpAnyH_all (rs := [13, 20]) (by kernel_rfl) (by decide) ?_
      intro i hi
      rcases (by simpa using hi : i = 13 ∨ i = 20) with rfl | rfl
      · refine wpOp_call rfl rfl (by simp [go_sem]) ((k3.out W0 hD0).mono ?_)
        rintro e X9 ⟨rfl, hX9⟩
        rw [hX9]
        clear hX9 X9
        refine ⟨_, rfl, hD0, ?_⟩
        simp only [List.getElem_toArray, List.getElem_cons_zero, List.getElem_cons_succ, Act.put, List.setIfInBounds_toArray, List.set_cons_zero, List.set_cons_succ]
        refine wpAnyH_take (i := 14) (v := .int .i64 (y3.toNat : Int)) rfl (by kernel_rfl) (by kernel_rfl) (by kernel_rfl) (fun _ _ _ h => h) (.inl ⟨rfl, fun X hX => by simp [go_sem, i3]⟩) hD0 ?_
        simp only [List.getElem_toArray, List.getElem_cons_zero, List.getElem_cons_succ, Act.put, List.setIfInBounds_toArray, List.set_cons_zero, List.set_cons_succ]
        refine wpAnyH_take (i := 19) (v := .agg (row 24 (hdv ⟨y0, (y1.toNat : Int), (y2.toNat : Int), (y3.toNat : Int), (y4.toNat : Int), 0, 0, 0, fun _ => 0#8⟩)).toArray) rfl (by kernel_rfl) (by kernel_rfl) (by kernel_rfl) (fun _ _ _ h => h) (.inl ⟨rfl, fun X hX => exec_build 27 [(0, .tmp 14), (1, .tmp 18), (2, .tmp 22), (3, .tmp 26), (4, .tmp 30)] rfl _ (bl27v _ _ _ _ _ _)⟩) hD0 ?_
        simp only [List.getElem_toArray, List.getElem_cons_zero, List.getElem_cons_succ, Act.put, List.setIfInBounds_toArray, List.set_cons_zero, List.set_cons_succ]
        refine wpAnyH_all (rs := [20]) (by kernel_rfl) (by decide) ?_
        intro i hi
        obtain rfl : i = 20 := by simpa using hi
        refine wpOp_to rfl rfl (.pointer (some ⟨W0.heap.size, 0, none⟩)) (W0.alloc (.cells (row 24 (hdv zH)).toArray 27)) (exec_alloc 27 _ rfl (zeroH W0)) ⟨hD1, ?_⟩
        simp only [List.getElem_toArray, List.getElem_cons_zero, List.getElem_cons_succ, Act.put, List.setIfInBounds_toArray, List.set_cons_zero, List.set_cons_succ]
        refine wpAnyH_all (rs := [21]) (by kernel_rfl) (by decide) ?_
        intro i hi
        obtain rfl : i = 21 := by simpa using hi
        refine wpOp_st rfl rfl _ (exec_storeP 27 (.tmp 4) (.tmp 31) rfl W0.heap.size 0 24 24 _ (hdv ⟨y0, (y1.toNat : Int), (y2.toNat : Int), (y3.toNat : Int), (y4.toNat : Int), 0, 0, 0, fun _ => 0#8⟩) rfl rfl M1 (by decide) infoH (fun j _ => hdv_one _ j)) ⟨Ext.trans hD0 M3, ?_⟩
        simp only [List.getElem_toArray, List.getElem_cons_zero, List.getElem_cons_succ, Act.put]
        refine wpAnyH_done (by kernel_rfl) ?_ _
        exact hK _ _ _ _ _ _ _ _ _ _ _ _ _ _ _ _ _ _ _ _ _ _ _ _ _ _ M2 (Q2.carry M3) (Ext.trans hD0 M3) hqs0 (Below.size hD0)
      · refine wpOp_to rfl rfl (.pointer (some ⟨W0.heap.size, 0, none⟩)) (W0.alloc (.cells (row 24 (hdv zH)).toArray 27)) (exec_alloc 27 _ rfl (zeroH W0)) ⟨hD1, ?_⟩
        simp only [List.getElem_toArray, List.getElem_cons_zero, List.getElem_cons_succ, Act.put, List.setIfInBounds_toArray, List.set_cons_zero, List.set_cons_succ]
        refine wpAnyH_all (rs := [13]) (by kernel_rfl) (by decide) ?_
        intro i hi
        obtain rfl : i = 13 := by simpa using hi
        refine wpOp_call rfl rfl (by simp [go_sem]) ((k3.out (W0.alloc (.cells (row 24 (hdv zH)).toArray 27)) hD1).mono ?_)
        rintro e X9 ⟨rfl, hX9⟩
        rw [hX9]
        clear hX9 X9
        refine ⟨_, rfl, hD1, ?_⟩
        simp only [List.getElem_toArray, List.getElem_cons_zero, List.getElem_cons_succ, Act.put, List.setIfInBounds_toArray, List.set_cons_zero, List.set_cons_succ]
        refine wpAnyH_take (i := 14) (v := .int .i64 (y3.toNat : Int)) rfl (by kernel_rfl) (by kernel_rfl) (by kernel_rfl) (fun _ _ _ h => h) (.inl ⟨rfl, fun X hX => by simp [go_sem, i3]⟩) hD1 ?_
        simp only [List.getElem_toArray, List.getElem_cons_zero, List.getElem_cons_succ, Act.put, List.setIfInBounds_toArray, List.set_cons_zero, List.set_cons_succ]
        refine wpAnyH_take (i := 19) (v := .agg (row 24 (hdv ⟨y0, (y1.toNat : Int), (y2.toNat : Int), (y3.toNat : Int), (y4.toNat : Int), 0, 0, 0, fun _ => 0#8⟩)).toArray) rfl (by kernel_rfl) (by kernel_rfl) (by kernel_rfl) (fun _ _ _ h => h) (.inl ⟨rfl, fun X hX => exec_build 27 [(0, .tmp 14), (1, .tmp 18), (2, .tmp 22), (3, .tmp 26), (4, .tmp 30)] rfl _ (bl27v _ _ _ _ _ _)⟩) hD1 ?_
        simp only [List.getElem_toArray, List.getElem_cons_zero, List.getElem_cons_succ, Act.put, List.setIfInBounds_toArray, List.set_cons_zero, List.set_cons_succ]
        refine wpAnyH_all (rs := [21]) (by kernel_rfl) (by decide) ?_
        intro i hi
        obtain rfl : i = 21 := by simpa using hi
        refine wpOp_st rfl rfl _ (exec_storeP 27 (.tmp 4) (.tmp 31) rfl W0.heap.size 0 24 24 _ (hdv ⟨y0, (y1.toNat : Int), (y2.toNat : Int), (y3.toNat : Int), (y4.toNat : Int), 0, 0, 0, fun _ => 0#8⟩) rfl rfl M1 (by decide) infoH (fun j _ => hdv_one _ j)) ⟨Ext.trans hD0 M3, ?_⟩
        simp only [List.getElem_toArray, List.getElem_cons_zero, List.getElem_cons_succ, Act.put]
        refine wpAnyH_done (by kernel_rfl) ?_ _
        exact hK _ _ _ _ _ _ _ _ _ _ _ _ _ _ _ _ _ _ _ _ _ _ _ _ _ _ M2 (Q2.carry M3) (Ext.trans hD0 M3) hqs0 (Below.size hD0)
    · refine wpOp_to rfl rfl (.pointer (some ⟨W0.heap.size, 0, none⟩)) (W0.alloc (.cells (row 24 (hdv zH)).toArray 27)) (exec_alloc 27 _ rfl (zeroH W0)) ⟨hD1, ?_⟩
      simp only [List.getElem_toArray, List.getElem_cons_zero, List.getElem_cons_succ, Act.put, List.setIfInBounds_toArray, List.set_cons_zero, List.set_cons_succ]
      refine wpAnyH_all (rs := [5]) (by kernel_rfl) (by decide) ?_
      intro i hi
      obtain rfl : i = 5 := by simpa using hi
      refine wpOp_call rfl rfl (by simp [go_sem]) ((k1.out (W0.alloc (.cells (row 24 (hdv zH)).toArray 27)) hD1).mono ?_)
      rintro e X9 ⟨rfl, hX9⟩
      rw [hX9]
      clear hX9 X9
      refine ⟨_, rfl, hD1, ?_⟩
      simp only [List.getElem_toArray, List.getElem_cons_zero, List.getElem_cons_succ, Act.put, List.setIfInBounds_toArray, List.set_cons_zero, List.set_cons_succ]
      refine wpAnyH_take (i := 6) (v := .int .i64 (y1.toNat : Int)) rfl (by kernel_rfl) (by kernel_rfl) (by kernel_rfl) (fun _ _ _ h => h) (.inl ⟨rfl, fun X hX => by simp [go_sem, i1]⟩) hD1 ?_
      simp only [List.getElem_toArray, List.getElem_cons_zero, List.getElem_cons_succ, Act.put, List.setIfInBounds_toArray, List.set_cons_zero, List.set_cons_succ]
      refine wpAnyH_all (rs := [13]) (by kernel_rfl) (by decide) ?_
      intro i hi
      obtain rfl : i = 13 := by simpa using hi
      refine wpOp_call rfl rfl (by simp [go_sem]) ((k3.out (W0.alloc (.cells (row 24 (hdv zH)).toArray 27)) hD1).mono ?_)
      rintro e X9 ⟨rfl, hX9⟩
      rw [hX9]
      clear hX9 X9
      refine ⟨_, rfl, hD1, ?_⟩
      simp only [List.getElem_toArray, List.getElem_cons_zero, List.getElem_cons_succ, Act.put, List.setIfInBounds_toArray, List.set_cons_zero, List.set_cons_succ]
      refine wpAnyH_take (i := 14) (v := .int .i64 (y3.toNat : Int)) rfl (by kernel_rfl) (by kernel_rfl) (by kernel_rfl) (fun _ _ _ h => h) (.inl ⟨rfl, fun X hX => by simp [go_sem, i3]⟩) hD1 ?_
      simp only [List.getElem_toArray, List.getElem_cons_zero, List.getElem_cons_succ, Act.put, List.setIfInBounds_toArray, List.set_cons_zero, List.set_cons_succ]
      refine wpAnyH_take (i := 19) (v := .agg (row 24 (hdv ⟨y0, (y1.toNat : Int), (y2.toNat : Int), (y3.toNat : Int), (y4.toNat : Int), 0, 0, 0, fun _ => 0#8⟩)).toArray) rfl (by kernel_rfl) (by kernel_rfl) (by kernel_rfl) (fun _ _ _ h => h) (.inl ⟨rfl, fun X hX => exec_build 27 [(0, .tmp 14), (1, .tmp 18), (2, .tmp 22), (3, .tmp 26), (4, .tmp 30)] rfl _ (bl27v _ _ _ _ _ _)⟩) hD1 ?_
      simp only [List.getElem_toArray, List.getElem_cons_zero, List.getElem_cons_succ, Act.put, List.setIfInBounds_toArray, List.set_cons_zero, List.set_cons_succ]
      refine wpAnyH_all (rs := [21]) (by kernel_rfl) (by decide) ?_
      intro i hi
      obtain rfl : i = 21 := by simpa using hi
      refine wpOp_st rfl rfl _ (exec_storeP 27 (.tmp 4) (.tmp 31) rfl W0.heap.size 0 24 24 _ (hdv ⟨y0, (y1.toNat : Int), (y2.toNat : Int), (y3.toNat : Int), (y4.toNat : Int), 0, 0, 0, fun _ => 0#8⟩) rfl rfl M1 (by decide) infoH (fun j _ => hdv_one _ j)) ⟨Ext.trans hD0 M3, ?_⟩
      simp only [List.getElem_toArray, List.getElem_cons_zero, List.getElem_cons_succ, Act.put]
      refine wpAnyH_done (by kernel_rfl) ?_ _
      exact hK _ _ _ _ _ _ _ _ _ _ _ _ _ _ _ _ _ _ _ _ _ _ _ _ _ _ M2 (Q2.carry M3) (Ext.trans hD0 M3) hqs0 (Below.size hD0)
  · refine wpOp_to rfl rfl (.pointer (some ⟨W0.heap.size, 0, none⟩)) (W0.alloc (.cells (row 24 (hdv zH)).toArray 27)) (exec_alloc 27 _ rfl (zeroH W0)) ⟨hD1, ?_⟩
    simp only [List.getElem_toArray, List.getElem_cons_zero, List.getElem_cons_succ, Act.put, List.setIfInBounds_toArray, List.set_cons_zero, List.set_cons_succ]
    refine wpAnyH_all (rs := [2]) (by kernel_rfl) (by decide) ?_
    intro i hi
    obtain rfl : i = 2 := by simpa using hi
    refine wpOp_call rfl rfl (by simp [go_sem]) ((k0.out (W0.alloc (.cells (row 24 (hdv zH)).toArray 27)) hD1).mono ?_)
    rintro e X9 ⟨rfl, hX9⟩
    rw [hX9]
    clear hX9 X9
    refine ⟨_, rfl, hD1, ?_⟩
    simp only [List.getElem_toArray, List.getElem_cons_zero, List.getElem_cons_succ, Act.put, List.setIfInBounds_toArray, List.set_cons_zero, List.set_cons_succ]
    refine wpAnyH_all (rs := [5]) (by kernel_rfl) (by decide) ?_
    intro i hi
    obtain rfl : i = 5 := by simpa using hi
    refine wpOp_call rfl rfl (by simp [go_sem]) ((k1.out (W0.alloc (.cells (row 24 (hdv zH)).toArray 27)) hD1).mono ?_)
    rintro e X9 ⟨rfl, hX9⟩
    rw [hX9]
    clear hX9 X9
    refine ⟨_, rfl, hD1, ?_⟩
    simp only [List.getElem_toArray, List.getElem_cons_zero, List.getElem_cons_succ, Act.put, List.setIfInBounds_toArray, List.set_cons_zero, List.set_cons_succ]
    refine wpAnyH_take (i := 6) (v := .int .i64 (y1.toNat : Int)) rfl (by kernel_rfl) (by kernel_rfl) (by kernel_rfl) (fun _ _ _ h => h) (.inl ⟨rfl, fun X hX => by simp [go_sem, i1]⟩) hD1 ?_
    simp only [List.getElem_toArray, List.getElem_cons_zero, List.getElem_cons_succ, Act.put, List.setIfInBounds_toArray, List.set_cons_zero, List.set_cons_succ]
    refine wpAnyH_all (rs := [13]) (by kernel_rfl) (by decide) ?_
    intro i hi
    obtain rfl : i = 13 := by simpa using hi
    refine wpOp_call rfl rfl (by simp [go_sem]) ((k3.out (W0.alloc (.cells (row 24 (hdv zH)).toArray 27)) hD1).mono ?_)
    rintro e X9 ⟨rfl, hX9⟩
    rw [hX9]
    clear hX9 X9
    refine ⟨_, rfl, hD1, ?_⟩
    simp only [List.getElem_toArray, List.getElem_cons_zero, List.getElem_cons_succ, Act.put, List.setIfInBounds_toArray, List.set_cons_zero, List.set_cons_succ]
    refine wpAnyH_take (i := 14) (v := .int .i64 (y3.toNat : Int)) rfl (by kernel_rfl) (by kernel_rfl) (by kernel_rfl) (fun _ _ _ h => h) (.inl ⟨rfl, fun X hX => by simp [go_sem, i3]⟩) hD1 ?_
    simp only [List.getElem_toArray, List.getElem_cons_zero, List.getElem_cons_succ, Act.put, List.setIfInBounds_toArray, List.set_cons_zero, List.set_cons_succ]
    refine wpAnyH_take (i := 19) (v := .agg (row 24 (hdv ⟨y0, (y1.toNat : Int), (y2.toNat : Int), (y3.toNat : Int), (y4.toNat : Int), 0, 0, 0, fun _ => 0#8⟩)).toArray) rfl (by kernel_rfl) (by kernel_rfl) (by kernel_rfl) (fun _ _ _ h => h) (.inl ⟨rfl, fun X hX => exec_build 27 [(0, .tmp 14), (1, .tmp 18), (2, .tmp 22), (3, .tmp 26), (4, .tmp 30)] rfl _ (bl27v _ _ _ _ _ _)⟩) hD1 ?_
    simp only [List.getElem_toArray, List.getElem_cons_zero, List.getElem_cons_succ, Act.put, List.setIfInBounds_toArray, List.set_cons_zero, List.set_cons_succ]
    refine wpAnyH_all (rs := [21]) (by kernel_rfl) (by decide) ?_
    intro i hi
    obtain rfl : i = 21 := by simpa using hi
    refine wpOp_st rfl rfl _ (exec_storeP 27 (.tmp 4) (.tmp 31) rfl W0.heap.size 0 24 24 _ (hdv ⟨y0, (y1.toNat : Int), (y2.toNat : Int), (y3.toNat : Int), (y4.toNat : Int), 0, 0, 0, fun _ => 0#8⟩) rfl rfl M1 (by decide) infoH (fun j _ => hdv_one _ j)) ⟨Ext.trans hD0 M3, ?_⟩
    simp only [List.getElem_toArray, List.getElem_cons_zero, List.getElem_cons_succ, Act.put]
    refine wpAnyH_done (by kernel_rfl) ?_ _
    exact hK _ _ _ _ _ _ _ _ _ _ _ _ _ _ _ _ _ _ _ _ _ _ _ _ _ _ M2 (Q2.carry M3) (Ext.trans hD0 M3) hqs0 (Below.size hD0)
theorem rdec_yes (v : Value) (l : Nat) (b : Nat → BitVec 8) (w : World) (h : BV v l b w) (hi : isH l b) :
    Calls Tryd.prog 17 #[v] w fun e w' => e = .returned (.tuple #[.agg (row 24 (hdv (ofB b))).toArray, .int .i64 0]) ∧ Ext w w' := by
  have h2 := hb_of l b hi
  obtain ⟨hl, _, _, _, h4⟩ := hi
  subst hl
  rcases h with ⟨_, h0⟩ | ⟨a, cap, rfl, hcap, hL⟩
  · exact absurd h0 (by decide)
  · exact (rdec_go a cap b w hL hcap (ofB b) rfl True ⟨fun _ => ⟨h4, eqN_iff.2 h2⟩, fun _ => trivial⟩).mono fun _ _ h => ⟨h.1 trivial, h.2.2⟩
theorem rdec_not (v : Value) (l : Nat) (b : Nat → BitVec 8) (w : World) (h : BV v l b w) (hi : ¬ isH l b) :
    Calls Tryd.prog 17 #[v] w fun e w' => e = .returned (.tuple #[.agg (row 24 (hdv zH)).toArray, .int .i64 110]) ∧ Ext w w' := by
  by_cases hl : l = 512
  · subst hl
    rcases h with ⟨_, h0⟩ | ⟨a, cap, rfl, hcap, hL⟩
    · exact absurd h0 (by decide)
    · exact (rdec_go a cap b w hL hcap (ofB b) rfl False ⟨fun hf => hf.elim, fun hh => hi (isH_of b hh.1 (eqN_iff.1 hh.2))⟩).mono fun _ _ h => ⟨h.2.1 id, h.2.2⟩
  · exact rdec_len v l b w h hl
end Go.Proofs.YtenlokmoijeehaaDoor
namespace Go.Proofs.YtenlokmoijeehaaDoor
open Go.RowKit Go.BigFrame
set_option maxRecDepth 20000 in
set_option maxHeartbeats 3000000 in
theorem rcho_core (v1 v2 : Value) (H1 H2 : Hd) (E1 E2 : Int) (w : World)
    (k1 : ∀ X, Ext w X → Calls Tryd.prog 17 #[v1] X fun e w' => e = .returned (.tuple #[.agg (row 24 (hdv H1)).toArray, .int .i64 E1]) ∧ Ext X w')
    (k2 : ∀ X, Ext w X → Calls Tryd.prog 17 #[v2] X fun e w' => e = .returned (.tuple #[.agg (row 24 (hdv H2)).toArray, .int .i64 E2]) ∧ Ext X w')
    (R : Hd) (n e : Int) (rA : Hid (E2 ≠ 0 → R = H1 ∧ n = 0 ∧ e = E1)) (rB : Hid (E2 = 0 → E1 ≠ 0 ∨ H1.g.toNat < H2.g.toNat → R = H2 ∧ n = 1 ∧ e = 0)) (rC : Hid (E2 = 0 → E1 = 0 → ¬ H1.g.toNat < H2.g.toNat → R = H1 ∧ n = 0 ∧ e = E1)) :
    Calls Tryd.prog 19 #[v1, v2] w fun x w' => x = .returned (.tuple #[.agg (row 24 (hdv R)).toArray, .int .i64 n, .int .i64 e]) ∧ Ext w w' := by
  have Q1 := hideit (RowAt.new w 24 (hdv zH) 27)
  have hE1 := hideit ((Below.refl w.heap.size w).alloc (Nat.le_refl _) (.cells (row 24 (hdv zH)).toArray 27))
  replace k1 := hideit k1
  replace k2 := hideit k2
  go_enter Tryd.func19, Tryd.ntmps19
  go_upto_region 0 with (fail)
  refine wp_region_lit ?_
  refine wpList_to rfl (.pointer (some ⟨w.heap.size, 0, none⟩)) (w.alloc (.cells (row 24 (hdv zH)).toArray 27)) (exec_alloc 27 _ rfl (zeroH w)) ?_
  simp only [Act.put, List.setIfInBounds_toArray, List.set_cons_zero, List.set_cons_succ]
  generalize w.alloc (.cells (row 24 (hdv zH)).toArray 27) = w1 at *
  obtain ⟨q, hq⟩ : ∃ q, q = w.heap.size := ⟨_, rfl⟩
  have hwq : Hid (w.heap.size ≤ q) := hideit (by omega)
  rw [← hq] at Q1 ⊢
  clear hq
  go_upto_region 1 with (fail)
  refine wp_region_lit ?_
  refine wpList_run rfl (v1) (by simp [go_sem]) ?_
  simp only [Act.put, List.setIfInBounds_toArray, List.set_cons_zero, List.set_cons_succ]
  refine wpList_call rfl (by simp [go_sem]; exact ⟨rfl, rfl⟩) ?_
  refine (k1.out w1 hE1.out).mono ?_
  rintro e w2 ⟨rfl, hE2⟩
  refine ⟨_, rfl, ?_⟩
  simp only [Act.put, List.setIfInBounds_toArray, List.set_cons_zero, List.set_cons_succ]
  refine wpList_run rfl (.tuple #[.agg (row 24 (hdv H1)).toArray, .int .i64 E1]) (by simp [go_sem]) ?_
  simp only [Act.put, List.setIfInBounds_toArray, List.set_cons_zero, List.set_cons_succ]
  refine wpList_run rfl (.agg (row 24 (hdv H1)).toArray) (by simp [go_sem]) ?_
  simp only [Act.put, List.setIfInBounds_toArray, List.set_cons_zero, List.set_cons_succ]
  refine wpList_run rfl (.int .i64 E1) (by simp [go_sem]) ?_
  simp only [Act.put, List.setIfInBounds_toArray, List.set_cons_zero, List.set_cons_succ]
  have Q2 := hideit (Q1.out.carry hE2)
  replace hE2 := hideit (Ext.trans hE1.out hE2)
  have HN := hideit (RowAt.new w2 24 (hdv zH) 27)
  have hX : Ext w2 (w2.alloc (.cells (row 24 (hdv zH)).toArray 27)) := (Below.refl _ _).alloc (Nat.le_refl _) _
  refine wpList_to rfl (.pointer (some ⟨w2.heap.size, 0, none⟩)) (w2.alloc (.cells (row 24 (hdv zH)).toArray 27)) (exec_alloc 27 _ rfl (zeroH w2)) ?_
  simp only [Act.put, List.setIfInBounds_toArray, List.set_cons_zero, List.set_cons_succ]
  refine wpList_store_mid rfl 27 (.tmp 7) (.tmp 14) rfl w2.heap.size 0 (row 24 (hdv H1)).toArray rfl rfl (by rw [row_size]; exact HN.out.there) (by rw [row_size]; exact infoH) (row_one fun j _ => hdv_one _ j) ?_
  rw [show (row 24 (hdv H1)).toArray.toList = row 24 (hdv H1) from rfl]
  have T3 : Hid (RowAt w2.heap.size 24 (hdv H1) _) := hideit (HN.out.cells (g' := hdv H1))
  have hqs1 : Hid (q < w2.heap.size) := hideit Q2.out.2.2
  have Q3 := hideit ((Q2.out.carry hX).cellsOther (c := w2.heap.size) (by have := hqs1.out; omega) (row 24 (hdv H1)) 0)
  have hE3 := hideit (below_setCells w2.heap.size (Below.size hE2.out) (row 24 (hdv H1)) 0 _ (Ext.trans hE2.out hX))
  generalize (w2.alloc (.cells (row 24 (hdv zH)).toArray 27)).setCells w2.heap.size 0 (row 24 (hdv H1)) = w3 at *
  generalize w2.heap.size = s1 at *
  clear HN hX Q2 hE2 Q1 hE1 k1
  have S3 := T3
  clear T3
  simp only [Act.put]
  go_upto_region 2 with (fail)
  refine wp_region_lit ?_
  refine wpList_run rfl (v2) (by simp [go_sem]) ?_
  simp only [Act.put, List.setIfInBounds_toArray, List.set_cons_zero, List.set_cons_succ]
  refine wpList_call rfl (by simp [go_sem]; exact ⟨rfl, rfl⟩) ?_
  refine (k2.out w3 hE3.out).mono ?_
  rintro e w4 ⟨rfl, hE4⟩
  refine ⟨_, rfl, ?_⟩
  simp only [Act.put, List.setIfInBounds_toArray, List.set_cons_zero, List.set_cons_succ]
  refine wpList_run rfl (.tuple #[.agg (row 24 (hdv H2)).toArray, .int .i64 E2]) (by simp [go_sem]) ?_
  simp only [Act.put, List.setIfInBounds_toArray, List.set_cons_zero, List.set_cons_succ]
  refine wpList_run rfl (.agg (row 24 (hdv H2)).toArray) (by simp [go_sem]) ?_
  simp only [Act.put, List.setIfInBounds_toArray, List.set_cons_zero, List.set_cons_succ]
  refine wpList_run rfl (.int .i64 E2) (by simp [go_sem]) ?_
  simp only [Act.put, List.setIfInBounds_toArray, List.set_cons_zero, List.set_cons_succ]
  have Q4 := hideit (Q3.out.carry hE4)
  have S4 := hideit (S3.out.carry hE4)
  replace hE4 := hideit (Ext.trans hE3.out hE4)
  have HN := hideit (RowAt.new w4 24 (hdv zH) 27)
  have hX : Ext w4 (w4.alloc (.cells (row 24 (hdv zH)).toArray 27)) := (Below.refl _ _).alloc (Nat.le_refl _) _
  refine wpList_to rfl (.pointer (some ⟨w4.heap.size, 0, none⟩)) (w4.alloc (.cells (row 24 (hdv zH)).toArray 27)) (exec_alloc 27 _ rfl (zeroH w4)) ?_
  simp only [Act.put, List.setIfInBounds_toArray, List.set_cons_zero, List.set_cons_succ]
  refine wpList_store_mid rfl 27 (.tmp 9) (.tmp 19) rfl w4.heap.size 0 (row 24 (hdv H2)).toArray rfl rfl (by rw [row_size]; exact HN.out.there) (by rw [row_size]; exact infoH) (row_one fun j _ => hdv_one _ j) ?_
  rw [show (row 24 (hdv H2)).toArray.toList = row 24 (hdv H2) from rfl]
  have T5 : Hid (RowAt w4.heap.size 24 (hdv H2) _) := hideit (HN.out.cells (g' := hdv H2))
  have hqs2 : Hid (q < w4.heap.size) := hideit Q4.out.2.2
  have Q5 := hideit ((Q4.out.carry hX).cellsOther (c := w4.heap.size) (by have := hqs2.out; omega) (row 24 (hdv H2)) 0)
  have hss : Hid (s1 < w4.heap.size) := hideit S4.out.2.2
  have S5 := hideit ((S4.out.carry hX).cellsOther (c := w4.heap.size) (by have := hss.out; omega) (row 24 (hdv H2)) 0)
  have hE5 := hideit (below_setCells w4.heap.size (Below.size hE4.out) (row 24 (hdv H2)) 0 _ (Ext.trans hE4.out hX))
  generalize (w4.alloc (.cells (row 24 (hdv zH)).toArray 27)).setCells w4.heap.size 0 (row 24 (hdv H2)) = w5 at *
  generalize w4.heap.size = s2 at *
  clear HN hX Q4 hE4 Q3 hE3 k2 S3 S4
  simp only [Act.put]
  go_upto_region 3 with (fail)
  by_cases c2 : E2 = 0
  · by_cases c1 : E1 = 0
    · have e1 : w5.cell? ⟨s1, 0, none⟩ = some (.int .u64 (H1.g.toNat : Int)) := S5.out.1 0 (by decide)
      have e2 : w5.cell? ⟨s2, 0, none⟩ = some (.int .u64 (H2.g.toNat : Int)) := T5.out.1 0 (by decide)
      by_cases hlt : H1.g.toNat < H2.g.toNat
      · have hr := hideit (rB.out c2 (.inr hlt))
        have hl2 : (H1.g.toNat : Int) < (H2.g.toNat : Int) := by omega
        refine wp_region_lit ?_
        refine wpList_run rfl (.int .i64 E2) (by simp [go_sem]) ?_
        simp only [Act.put, List.setIfInBounds_toArray, List.set_cons_zero, List.set_cons_succ]
        refine wpList_run rfl (.bool true) (by simp [go_sem, c2]) ?_
        simp only [Act.put, List.setIfInBounds_toArray, List.set_cons_zero, List.set_cons_succ]
        refine wpList_run rfl (.bool true) (by simp [go_sem]) ?_
        simp only [Act.put, List.setIfInBounds_toArray, List.set_cons_zero, List.set_cons_succ]
        refine wpList_runW rfl (.int .i64 E1) (by simp [go_sem]) ?_
        simp only [Act.put, List.setIfInBounds_toArray, List.set_cons_zero, List.set_cons_succ]
        refine wpList_runW rfl (.bool false) (by simp [go_sem, c1]) ?_
        simp only [Act.put, List.setIfInBounds_toArray, List.set_cons_zero, List.set_cons_succ]
        refine wpList_runW rfl (.bool false) (by simp [go_sem]) ?_
        simp only [Act.put, List.setIfInBounds_toArray, List.set_cons_zero, List.set_cons_succ]
        refine wpList_runW rfl (.pointer (some ⟨s2, 0, none⟩)) (by simp [go_sem]) ?_
        simp only [Act.put, List.setIfInBounds_toArray, List.set_cons_zero, List.set_cons_succ]
        refine wpList_runW rfl (.int .u64 (H2.g.toNat : Int)) (by simp [go_sem, e2]) ?_
        simp only [Act.put, List.setIfInBounds_toArray, List.set_cons_zero, List.set_cons_succ]
        refine wpList_runW rfl (.pointer (some ⟨s1, 0, none⟩)) (by simp [go_sem]) ?_
        simp only [Act.put, List.setIfInBounds_toArray, List.set_cons_zero, List.set_cons_succ]
        refine wpList_runW rfl (.int .u64 (H1.g.toNat : Int)) (by simp [go_sem, e1]) ?_
        simp only [Act.put, List.setIfInBounds_toArray, List.set_cons_zero, List.set_cons_succ]
        refine wpList_runW rfl (.bool true) (by simp [go_sem, hl2]) ?_
        simp only [Act.put, List.setIfInBounds_toArray, List.set_cons_zero, List.set_cons_succ]
        refine wpList_runW rfl (.bool true) (by simp [go_sem]) ?_
        simp only [Act.put, List.setIfInBounds_toArray, List.set_cons_zero, List.set_cons_succ]
        refine wpList_run rfl (.bool true) (by simp [go_sem]) ?_
        simp only [Act.put, List.setIfInBounds_toArray, List.set_cons_zero, List.set_cons_succ]
        clear c1 c2 e1 e2 hlt hl2 rA rB rC
        go_upto_region 4 with (fail)
        refine wp_region_lit ?_
        refine wpList_run rfl (.agg (row 24 (hdv H2)).toArray) (exec_loadR 27 (.tmp 9) rfl s2 0 24 _ rfl T5.out.range Tryd.underlying27 rfl infoH) ?_
        simp only [Act.put, List.setIfInBounds_toArray, List.set_cons_zero, List.set_cons_succ]
        refine wpList_store_mid rfl 27 (.tmp 4) (.tmp 34) rfl q 0 (row 24 (hdv H2)).toArray rfl rfl (by rw [row_size]; exact Q5.out.there) (by rw [row_size]; exact infoH) (row_one fun j _ => hdv_one _ j) ?_
        rw [show (row 24 (hdv H2)).toArray.toList = row 24 (hdv H2) from rfl]
        have h9 : Hid (RowAt q 24 (hdv H2) (w5.setCells q 0 (row 24 (hdv H2)))) := hideit Q5.out.cells
        have hE9 := hideit (below_setCells q hwq.out (row 24 (hdv H2)) 0 _ hE5.out)
        generalize w5.setCells q 0 (row 24 (hdv H2)) = w9 at *
        clear Q5 hE5 S5 T5
        simp only [Act.put]
        go_wp2
        refine bodyPost_ret (ret_row3 Tryd.results19 rfl h9.out Tryd.underlying27 rfl infoH) rfl ⟨?_, hE9.out⟩
        rw [hr.out.1, hr.out.2.1, hr.out.2.2]
        rfl
      · have hr := hideit (rC.out c2 c1 hlt)
        have hl2 : ¬ (H1.g.toNat : Int) < (H2.g.toNat : Int) := by omega
        refine wp_region_lit ?_
        refine wpList_run rfl (.int .i64 E2) (by simp [go_sem]) ?_
        simp only [Act.put, List.setIfInBounds_toArray, List.set_cons_zero, List.set_cons_succ]
        refine wpList_run rfl (.bool true) (by simp [go_sem, c2]) ?_
        simp only [Act.put, List.setIfInBounds_toArray, List.set_cons_zero, List.set_cons_succ]
        refine wpList_run rfl (.bool true) (by simp [go_sem]) ?_
        simp only [Act.put, List.setIfInBounds_toArray, List.set_cons_zero, List.set_cons_succ]
        refine wpList_runW rfl (.int .i64 E1) (by simp [go_sem]) ?_
        simp only [Act.put, List.setIfInBounds_toArray, List.set_cons_zero, List.set_cons_succ]
        refine wpList_runW rfl (.bool false) (by simp [go_sem, c1]) ?_
        simp only [Act.put, List.setIfInBounds_toArray, List.set_cons_zero, List.set_cons_succ]
        refine wpList_runW rfl (.bool false) (by simp [go_sem]) ?_
        simp only [Act.put, List.setIfInBounds_toArray, List.set_cons_zero, List.set_cons_succ]
        refine wpList_runW rfl (.pointer (some ⟨s2, 0, none⟩)) (by simp [go_sem]) ?_
        simp only [Act.put, List.setIfInBounds_toArray, List.set_cons_zero, List.set_cons_succ]
        refine wpList_runW rfl (.int .u64 (H2.g.toNat : Int)) (by simp [go_sem, e2]) ?_
        simp only [Act.put, List.setIfInBounds_toArray, List.set_cons_zero, List.set_cons_succ]
        refine wpList_runW rfl (.pointer (some ⟨s1, 0, none⟩)) (by simp [go_sem]) ?_
        simp only [Act.put, List.setIfInBounds_toArray, List.set_cons_zero, List.set_cons_succ]
        refine wpList_runW rfl (.int .u64 (H1.g.toNat : Int)) (by simp [go_sem, e1]) ?_
        simp only [Act.put, List.setIfInBounds_toArray, List.set_cons_zero, List.set_cons_succ]
        refine wpList_runW rfl (.bool false) (by simp [go_sem, hl2]) ?_
        simp only [Act.put, List.setIfInBounds_toArray, List.set_cons_zero, List.set_cons_succ]
        refine wpList_runW rfl (.bool false) (by simp [go_sem]) ?_
        simp only [Act.put, List.setIfInBounds_toArray, List.set_cons_zero, List.set_cons_succ]
        refine wpList_run rfl (.bool false) (by simp [go_sem]) ?_
        simp only [Act.put, List.setIfInBounds_toArray, List.set_cons_zero, List.set_cons_succ]
        clear c2 e1 e2 hlt hl2 rA rB rC c1
        go_upto_region 5 with (fail)
        refine wp_region_lit ?_
        refine wpList_run rfl (.agg (row 24 (hdv H1)).toArray) (exec_loadR 27 (.tmp 7) rfl s1 0 24 _ rfl S5.out.range Tryd.underlying27 rfl infoH) ?_
        simp only [Act.put, List.setIfInBounds_toArray, List.set_cons_zero, List.set_cons_succ]
        refine wpList_run rfl (.int .i64 E1) (by simp [go_sem]) ?_
        simp only [Act.put, List.setIfInBounds_toArray, List.set_cons_zero, List.set_cons_succ]
        refine wpList_store_mid rfl 27 (.tmp 4) (.tmp 35) rfl q 0 (row 24 (hdv H1)).toArray rfl rfl (by rw [row_size]; exact Q5.out.there) (by rw [row_size]; exact infoH) (row_one fun j _ => hdv_one _ j) ?_
        rw [show (row 24 (hdv H1)).toArray.toList = row 24 (hdv H1) from rfl]
        have h9 : Hid (RowAt q 24 (hdv H1) (w5.setCells q 0 (row 24 (hdv H1)))) := hideit Q5.out.cells
        have hE9 := hideit (below_setCells q hwq.out (row 24 (hdv H1)) 0 _ hE5.out)
        generalize w5.setCells q 0 (row 24 (hdv H1)) = w9 at *
        clear Q5 hE5 S5 T5
        simp only [Act.put]
        go_wp2
        refine bodyPost_ret (ret_row3 Tryd.results19 rfl h9.out Tryd.underlying27 rfl infoH) rfl ⟨?_, hE9.out⟩
        rw [hr.out.1, hr.out.2.1, hr.out.2.2]
        rfl
    · have hr := hideit (rB.out c2 (.inl c1))
      refine wp_region_lit ?_
      refine wpList_run rfl (.int .i64 E2) (by simp [go_sem]) ?_
      simp only [Act.put, List.setIfInBounds_toArray, List.set_cons_zero, List.set_cons_succ]
      refine wpList_run rfl (.bool true) (by simp [go_sem, c2]) ?_
      simp only [Act.put, List.setIfInBounds_toArray, List.set_cons_zero, List.set_cons_succ]
      refine wpList_run rfl (.bool true) (by simp [go_sem]) ?_
      simp only [Act.put, List.setIfInBounds_toArray, List.set_cons_zero, List.set_cons_succ]
      refine wpList_runW rfl (.int .i64 E1) (by simp [go_sem]) ?_
      simp only [Act.put, List.setIfInBounds_toArray, List.set_cons_zero, List.set_cons_succ]
      refine wpList_runW rfl (.bool true) (by simp [go_sem, c1]) ?_
      simp only [Act.put, List.setIfInBounds_toArray, List.set_cons_zero, List.set_cons_succ]
      refine wpList_runW rfl (.bool true) (by simp [go_sem]) ?_
      simp only [Act.put, List.setIfInBounds_toArray, List.set_cons_zero, List.set_cons_succ]
      with_reducible refine wpList_not (by with_unfolding_all rfl) ?_
      simp only [Act.put, List.setIfInBounds_toArray, List.set_cons_zero, List.set_cons_succ]
      with_reducible refine wpList_not (by with_unfolding_all rfl) ?_
      simp only [Act.put, List.setIfInBounds_toArray, List.set_cons_zero, List.set_cons_succ]
      with_reducible refine wpList_not (by with_unfolding_all rfl) ?_
      simp only [Act.put, List.setIfInBounds_toArray, List.set_cons_zero, List.set_cons_succ]
      with_reducible refine wpList_not (by with_unfolding_all rfl) ?_
      simp only [Act.put, List.setIfInBounds_toArray, List.set_cons_zero, List.set_cons_succ]
      with_reducible refine wpList_not (by with_unfolding_all rfl) ?_
      simp only [Act.put, List.setIfInBounds_toArray, List.set_cons_zero, List.set_cons_succ]
      refine wpList_runW rfl (.bool true) (by simp [go_sem]) ?_
      simp only [Act.put, List.setIfInBounds_toArray, List.set_cons_zero, List.set_cons_succ]
      refine wpList_run rfl (.bool true) (by simp [go_sem]) ?_
      simp only [Act.put, List.setIfInBounds_toArray, List.set_cons_zero, List.set_cons_succ]
      clear c1 c2 rA rB rC
      go_upto_region 4 with (fail)
      refine wp_region_lit ?_
      refine wpList_run rfl (.agg (row 24 (hdv H2)).toArray) (exec_loadR 27 (.tmp 9) rfl s2 0 24 _ rfl T5.out.range Tryd.underlying27 rfl infoH) ?_
      simp only [Act.put, List.setIfInBounds_toArray, List.set_cons_zero, List.set_cons_succ]
      refine wpList_store_mid rfl 27 (.tmp 4) (.tmp 34) rfl q 0 (row 24 (hdv H2)).toArray rfl rfl (by rw [row_size]; exact Q5.out.there) (by rw [row_size]; exact infoH) (row_one fun j _ => hdv_one _ j) ?_
      rw [show (row 24 (hdv H2)).toArray.toList = row 24 (hdv H2) from rfl]
      have h9 : Hid (RowAt q 24 (hdv H2) (w5.setCells q 0 (row 24 (hdv H2)))) := hideit Q5.out.cells
      have hE9 := hideit (below_setCells q hwq.out (row 24 (hdv H2)) 0 _ hE5.out)
      generalize w5.setCells q 0 (row 24 (hdv H2)) = w9 at *
      clear Q5 hE5 S5 T5
      simp only [Act.put]
      go_wp2
      refine bodyPost_ret (ret_row3 Tryd.results19 rfl h9.out Tryd.underlying27 rfl infoH) rfl ⟨?_, hE9.out⟩
      rw [hr.out.1, hr.out.2.1, hr.out.2.2]
      rfl
  · have hr := hideit (rA.out c2)
    refine wp_region_lit ?_
    refine wpList_run rfl (.int .i64 E2) (by simp [go_sem]) ?_
    simp only [Act.put, List.setIfInBounds_toArray, List.set_cons_zero, List.set_cons_succ]
    refine wpList_run rfl (.bool false) (by simp [go_sem, c2]) ?_
    simp only [Act.put, List.setIfInBounds_toArray, List.set_cons_zero, List.set_cons_succ]
    with_reducible refine wpList_run (by with_unfolding_all rfl) (.bool false) (by with_unfolding_all simp [go_sem]) ?_
    simp only [Act.put, List.setIfInBounds_toArray, List.set_cons_zero, List.set_cons_succ]
    with_reducible refine wpList_not (by with_unfolding_all rfl) ?_
    simp only [Act.put, List.setIfInBounds_toArray, List.set_cons_zero, List.set_cons_succ]
    with_reducible refine wpList_not (by with_unfolding_all rfl) ?_
    simp only [Act.put, List.setIfInBounds_toArray, List.set_cons_zero, List.set_cons_succ]
    with_reducible refine wpList_not (by with_unfolding_all rfl) ?_
    simp only [Act.put, List.setIfInBounds_toArray, List.set_cons_zero, List.set_cons_succ]
    with_reducible refine wpList_not (by with_unfolding_all rfl) ?_
    simp only [Act.put, List.setIfInBounds_toArray, List.set_cons_zero, List.set_cons_succ]
    with_reducible refine wpList_not (by with_unfolding_all rfl) ?_
    simp only [Act.put, List.setIfInBounds_toArray, List.set_cons_zero, List.set_cons_succ]
    with_reducible refine wpList_not (by with_unfolding_all rfl) ?_
    simp only [Act.put, List.setIfInBounds_toArray, List.set_cons_zero, List.set_cons_succ]
    with_reducible refine wpList_not (by with_unfolding_all rfl) ?_
    simp only [Act.put, List.setIfInBounds_toArray, List.set_cons_zero, List.set_cons_succ]
    with_reducible refine wpList_not (by with_unfolding_all rfl) ?_
    simp only [Act.put, List.setIfInBounds_toArray, List.set_cons_zero, List.set_cons_succ]
    with_reducible refine wpList_not (by with_unfolding_all rfl) ?_
    simp only [Act.put, List.setIfInBounds_toArray, List.set_cons_zero, List.set_cons_succ]
    refine wpList_run rfl (.bool false) (by simp [go_sem]) ?_
    simp only [Act.put, List.setIfInBounds_toArray, List.set_cons_zero, List.set_cons_succ]
    clear c2 rA rB rC
    go_upto_region 5 with (fail)
    refine wp_region_lit ?_
    refine wpList_run rfl (.agg (row 24 (hdv H1)).toArray) (exec_loadR 27 (.tmp 7) rfl s1 0 24 _ rfl S5.out.range Tryd.underlying27 rfl infoH) ?_
    simp only [Act.put, List.setIfInBounds_toArray, List.set_cons_zero, List.set_cons_succ]
    refine wpList_run rfl (.int .i64 E1) (by simp [go_sem]) ?_
    simp only [Act.put, List.setIfInBounds_toArray, List.set_cons_zero, List.set_cons_succ]
    refine wpList_store_mid rfl 27 (.tmp 4) (.tmp 35) rfl q 0 (row 24 (hdv H1)).toArray rfl rfl (by rw [row_size]; exact Q5.out.there) (by rw [row_size]; exact infoH) (row_one fun j _ => hdv_one _ j) ?_
    rw [show (row 24 (hdv H1)).toArray.toList = row 24 (hdv H1) from rfl]
    have h9 : Hid (RowAt q 24 (hdv H1) (w5.setCells q 0 (row 24 (hdv H1)))) := hideit Q5.out.cells
    have hE9 := hideit (below_setCells q hwq.out (row 24 (hdv H1)) 0 _ hE5.out)
    generalize w5.setCells q 0 (row 24 (hdv H1)) = w9 at *
    clear Q5 hE5 S5 T5
    simp only [Act.put]
    go_wp2
    refine bodyPost_ret (ret_row3 Tryd.results19 rfl h9.out Tryd.underlying27 rfl infoH) rfl ⟨?_, hE9.out⟩
    rw [hr.out.1, hr.out.2.1, hr.out.2.2]
    rfl
theorem pickH (H1 H2 : Hd) (E1 E2 : Int) (h1 : (E1 = 0 ∧ 1 ≤ H1.g.toNat) ∨ (E1 = 110 ∧ H1 = zH)) (h2 : (E2 = 0 ∧ 1 ≤ H2.g.toNat) ∨ (E2 = 110 ∧ H2 = zH)) :
    ∃ (R : Hd) (n e : Int), (E1 ≠ 0 ∧ E2 ≠ 0 → R = zH ∧ n = 0 ∧ e = 110) ∧ (¬ (E1 ≠ 0 ∧ E2 ≠ 0) → H1.g.toNat < H2.g.toNat → R = H2 ∧ n = 1 ∧ e = 0) ∧ (¬ (E1 ≠ 0 ∧ E2 ≠ 0) → ¬ H1.g.toNat < H2.g.toNat → R = H1 ∧ n = 0 ∧ e = 0) ∧
      (E2 ≠ 0 → R = H1 ∧ n = 0 ∧ e = E1) ∧ (E2 = 0 → E1 ≠ 0 ∨ H1.g.toNat < H2.g.toNat → R = H2 ∧ n = 1 ∧ e = 0) ∧ (E2 = 0 → E1 = 0 → ¬ H1.g.toNat < H2.g.toNat → R = H1 ∧ n = 0 ∧ e = E1) := by
  have hz : zH.g.toNat = 0 := rfl
  rcases h1 with ⟨rfl, h1⟩ | ⟨rfl, rfl⟩ <;> rcases h2 with ⟨rfl, h2⟩ | ⟨rfl, rfl⟩
  · by_cases hlt : H1.g.toNat < H2.g.toNat
    · exact ⟨H2, 1, 0, fun h => absurd rfl h.1, fun _ _ => ⟨rfl, rfl, rfl⟩, fun _ h => absurd hlt h, fun h => absurd rfl h, fun _ _ => ⟨rfl, rfl, rfl⟩, fun _ _ h => absurd hlt h⟩
    · exact ⟨H1, 0, 0, fun h => absurd rfl h.1, fun _ h => absurd h hlt, fun _ _ => ⟨rfl, rfl, rfl⟩, fun h => absurd rfl h, fun _ h => h.elim (fun h => absurd rfl h) (fun h => absurd h hlt), fun _ _ _ => ⟨rfl, rfl, rfl⟩⟩
  · exact ⟨H1, 0, 0, fun h => absurd rfl h.1, fun _ h => by rw [hz] at h; omega, fun _ _ => ⟨rfl, rfl, rfl⟩, fun _ => ⟨rfl, rfl, rfl⟩, fun h => absurd h (by decide), fun h => absurd h (by decide)⟩
  · exact ⟨H2, 1, 0, fun h => absurd rfl h.2, fun _ _ => ⟨rfl, rfl, rfl⟩, fun _ h => by rw [hz] at h; omega, fun h => absurd rfl h, fun _ _ => ⟨rfl, rfl, rfl⟩, fun _ h => absurd h (by decide)⟩
  · exact ⟨zH, 0, 110, fun _ => ⟨rfl, rfl, rfl⟩, fun h => absurd ⟨by decide, by decide⟩ h, fun h => absurd ⟨by decide, by decide⟩ h, fun _ => ⟨rfl, rfl, rfl⟩, fun h => absurd h (by decide), fun h => absurd h (by decide)⟩
/-- what both Decodes say of bytes -/
theorem dec_both (v : Value) (l : Nat) (b : Nat → BitVec 8) (w : World) (h : BV v l b w) (hC : TabC w) : ∃ (H : Hd) (E : Int), ((E = 0 ∧ 1 ≤ H.g.toNat) ∨ (E = 110 ∧ H = zH)) ∧ (E = 0 ↔ isH l b) ∧ (E = 0 → H = ofB b) ∧
    (∀ X, Ext w X → Calls Tryd.prog 16 #[v] X fun e w' => e = .returned (.tuple #[.agg (row 24 (hdv H)).toArray, .int .i64 E]) ∧ Ext X w') ∧
    (∀ X, Ext w X → Calls Tryd.prog 17 #[v] X fun e w' => e = .returned (.tuple #[.agg (row 24 (hdv H)).toArray, .int .i64 E]) ∧ Ext X w') := by
  by_cases hi : isH l b
  · exact ⟨ofB b, 0, .inl ⟨rfl, hi.2.2.2.2.1.1⟩, ⟨fun _ => hi, fun _ => rfl⟩, fun _ => rfl, fun X hX => dec_yes v l b X (h.ext hX) (hC.ext hX) hi, fun X hX => rdec_yes v l b X (h.ext hX) hi⟩
  · exact ⟨zH, 110, .inr ⟨rfl, rfl⟩, ⟨fun h => absurd h (by decide), fun h => absurd h hi⟩, fun h => absurd h (by decide), fun X hX => dec_not v l b X (h.ext hX) (hC.ext hX) hi, fun X hX => rdec_not v l b X (h.ext hX) hi⟩
end Go.Proofs.YtenlokmoijeehaaDoor
