/-
  The header of a block: Decode. The header of a block of 512 bytes: its digest. Texts told by their bytes.
-/
import Derived.Test.YtenlokmoijeehaaDoorGq
namespace Go.Proofs.YtenlokmoijeehaaDoor
open Go.RowKit Go.BigFrame
theorem ret_row2 {P : Program} {F : Func} {tmps : Array Value} {k k2 : Nat} {t : TypeId} {b n : Nat} {g : Nat → Value} {X : World} {d : TypeDesc} (hF : F.results = #[.cell k t, .tmp k2]) (ht : tmps.getD k undef = .pointer (some ⟨b, 0, none⟩)) (h : RowAt b n g X)
    (hu : P.underlying t = some d) (hd : d.isRow = true) (hi : (P.info? t).map (·.size) = some n) : Sem.run P (results F tmps) X = .ok (.tuple #[.agg (row n g).toArray, tmps.getD k2 undef]) X := by
  have hl := run_loadVar_mid (P := P) X b 0 t (row n g) d h.range hu hd (by rw [row_length]; exact hi)
  unfold results
  rw [hF]
  simp only [List.mapM_toArray, List.mapM_cons, List.mapM_nil, ht]
  simp [asAddr, hl]
theorem buildH (w : World) : (Instr.build 27 #[]).run Tryd.prog w = .ok (.agg (row 24 (hdv zH)).toArray) w := run_build w 27 #[] _ (by kernel_rfl)
set_option maxRecDepth 20000 in
set_option maxHeartbeats 2000000 in
theorem dec_len (v : Value) (l : Nat) (b : Nat → BitVec 8) (w : World) (h : BV v l b w) (hl : l ≠ 512) :
    Calls Tryd.prog 16 #[v] w fun e w' => e = .returned (.tuple #[.agg (row 24 (hdv zH)).toArray, .int .i64 110]) ∧ Ext w w' := by
  obtain ⟨oa, cp, rfl⟩ := h.form
  have Q1 := hideit (RowAt.new w 24 (hdv zH) 27)
  have hE1 := hideit ((Below.refl w.heap.size w).alloc (Nat.le_refl _) (.cells (row 24 (hdv zH)).toArray 27))
  have hne : ¬ (l : Int) = 512 := by omega
  clear h hl
  go_enter Tryd.func16, Tryd.ntmps16
  go_upto_region 0 with (fail)
  refine wp_region_lit ?_
  refine wpList_to rfl (.pointer (some ⟨w.heap.size, 0, none⟩)) (w.alloc (.cells (row 24 (hdv zH)).toArray 27)) (exec_alloc 27 _ rfl (zeroH w)) ?_
  simp only [Act.put, List.setIfInBounds_toArray, List.set_cons_zero, List.set_cons_succ]
  generalize w.alloc (.cells (row 24 (hdv zH)).toArray 27) = w1 at *
  obtain ⟨q, hq⟩ : ∃ q, q = w.heap.size := ⟨_, rfl⟩
  have hwq : Hid (w.heap.size ≤ q) := hideit (by omega)
  rw [← hq] at Q1 ⊢
  clear hq
  go_upto_region 1 with (fail)
  refine wp_region_lad (fun _ => True) [(false, 0), (false, 1), (false, 2), (false, 3), (false, 4), (false, 5), (false, 6), (false, 7), (false, 8), (false, 9), (false, 10), (false, 11), (false, 12)] (by kernel_rfl) (by kernel_rfl) (by decide +kernel) (by decide +kernel) (by decide +kernel) (by decide +kernel) trivial ?_
  refine wpX_f _ (.slice oa l cp) rfl rfl (fun X _ => by simp [go_sem]) ?_
  simp only [List.getElem_toArray, List.getElem_cons_zero, Act.put, List.setIfInBounds_toArray, List.set_cons_zero, List.set_cons_succ]
  refine wpX_f _ (.int .i64 (l : Int)) rfl rfl (fun X _ => by simp [go_sem]) ?_
  simp only [List.getElem_toArray, List.getElem_cons_zero, List.getElem_cons_succ, Act.put, List.setIfInBounds_toArray, List.set_cons_zero, List.set_cons_succ]
  refine wpX_f _ (.bool true) rfl rfl (fun X _ => by simp [go_sem, hne]) ?_
  simp only [List.getElem_toArray, List.getElem_cons_zero, List.getElem_cons_succ, Act.put, List.setIfInBounds_toArray, List.set_cons_zero, List.set_cons_succ]
  refine wpX_f _ (.bool true) rfl rfl (fun X _ => by simp [go_sem]) ?_
  simp only [List.getElem_toArray, List.getElem_cons_zero, List.getElem_cons_succ, Act.put, List.setIfInBounds_toArray, List.set_cons_zero, List.set_cons_succ]
  refine wpX_fskip _ rfl rfl ?_
  simp only [List.getElem_toArray, List.getElem_cons_zero, List.getElem_cons_succ, Act.put, List.setIfInBounds_toArray, List.set_cons_zero, List.set_cons_succ]
  refine wpX_fskip _ rfl rfl ?_
  simp only [List.getElem_toArray, List.getElem_cons_zero, List.getElem_cons_succ, Act.put, List.setIfInBounds_toArray, List.set_cons_zero, List.set_cons_succ]
  refine wpX_fskip _ rfl rfl ?_
  simp only [List.getElem_toArray, List.getElem_cons_zero, List.getElem_cons_succ, Act.put, List.setIfInBounds_toArray, List.set_cons_zero, List.set_cons_succ]
  refine wpX_fskip _ rfl rfl ?_
  simp only [List.getElem_toArray, List.getElem_cons_zero, List.getElem_cons_succ, Act.put, List.setIfInBounds_toArray, List.set_cons_zero, List.set_cons_succ]
  refine wpX_fskip _ rfl rfl ?_
  simp only [List.getElem_toArray, List.getElem_cons_zero, List.getElem_cons_succ, Act.put, List.setIfInBounds_toArray, List.set_cons_zero, List.set_cons_succ]
  refine wpX_fskip _ rfl rfl ?_
  simp only [List.getElem_toArray, List.getElem_cons_zero, List.getElem_cons_succ, Act.put, List.setIfInBounds_toArray, List.set_cons_zero, List.set_cons_succ]
  refine wpX_fskip _ rfl rfl ?_
  simp only [List.getElem_toArray, List.getElem_cons_zero, List.getElem_cons_succ, Act.put, List.setIfInBounds_toArray, List.set_cons_zero, List.set_cons_succ]
  refine wpX_fskip _ rfl rfl ?_
  simp only [List.getElem_toArray, List.getElem_cons_zero, List.getElem_cons_succ, Act.put, List.setIfInBounds_toArray, List.set_cons_zero, List.set_cons_succ]
  refine wpX_f _ (.bool true) rfl rfl (fun X _ => by simp [go_sem]) ?_
  simp only [List.getElem_toArray, List.getElem_cons_zero, List.getElem_cons_succ, Act.put, List.setIfInBounds_toArray, List.set_cons_zero, List.set_cons_succ]
  refine wpX_nil ?_
  have Q2 := hideit (Q1.out.drew)
  have hE2 := hideit (Ext.trans hE1.out (Ext.refl w1).draw)
  clear Q1 hE1
  generalize w1.drew = w2 at *
  go_upto_region 2 with (fail)
  refine wp_region_lit ?_
  refine wpList_build rfl 27 [] rfl (.agg (row 24 (hdv zH)).toArray) (buildH _) ?_
  simp only [Act.put, List.setIfInBounds_toArray, List.set_cons_zero, List.set_cons_succ]
  refine wpList_store_mid rfl 27 (.tmp 2) (.tmp 20) rfl q 0 (row 24 (hdv zH)).toArray rfl rfl (by rw [row_size]; exact Q2.out.there) (by rw [row_size]; exact infoH) (row_one fun j _ => hdv_one _ j) ?_
  rw [show (row 24 (hdv zH)).toArray.toList = row 24 (hdv zH) from rfl]
  have h9 : Hid (RowAt q 24 (hdv zH) (w2.setCells q 0 (row 24 (hdv zH)))) := hideit Q2.out.cells
  have hE3 := hideit (below_setCells q hwq.out (row 24 (hdv zH)) 0 _ hE2.out)
  generalize w2.setCells q 0 (row 24 (hdv zH)) = w3 at *
  clear Q2 hE2
  simp only [Act.put]
  go_wp2
  exact bodyPost_ret (ret_row2 Tryd.results16 rfl h9.out Tryd.underlying27 rfl infoH) rfl ⟨rfl, hE3.out⟩
end Go.Proofs.YtenlokmoijeehaaDoor
namespace Go.Proofs.YtenlokmoijeehaaDoor
open Go.RowKit Go.BigFrame
theorem cutLo (a : Addr) (cap : Nat) (h : 512 ≤ cap) (X : World) : Sem.run Tryd.prog (Instr.sliceAt 28 (.slice (some a) 512 cap) none (some (.int .i64 480)) none) X = .ok (.slice (some a) 480 cap) X := by
  have h2 : ¬ (cap : Int) < 480 := by omega
  simp [go_sem, h2]
theorem cutHi (a : Addr) (cap : Nat) (h : 512 ≤ cap) (X : World) : Sem.run Tryd.prog (Instr.sliceAt 28 (.slice (some a) 512 cap) (some (.int .i64 480)) none none) X = .ok (.slice (some ⟨a.block, a.off + 480, none⟩) 32 (cap - 480)) X := by
  simp [go_sem]
  intro h2
  omega
theorem arr52 (a : Addr) (cap : Nat) (X : World) : Sem.run Tryd.prog (Instr.arrayAt 52 (.slice (some a) 32 cap)) X = .ok (.pointer (some a)) X := by
  simp [Instr.arrayAt, go_sem]
def eqN (n : Nat) (f g : Nat → BitVec 8) : Bool := decide (∀ j, j < n → f j = g j)
theorem eqN_iff {n : Nat} {f g : Nat → BitVec 8} : eqN n f g = true ↔ ∀ j, j < n → f j = g j := decide_eq_true_iff
theorem neq52 (f g : Nat → BitVec 8) (w : World) : (binOp .neq 52 (.agg (row 32 (yv f)).toArray) (.agg (row 32 (yv g)).toArray)).run Tryd.prog w = .ok (.bool (!(eqN 32 f g))) w := by
  have e := equalIn_row (P := Tryd.prog) 9998 52 5 32 .u8 Tryd.underlying52 Tryd.underlying5 Tryd.sizeOf5 (fun j => ((f j).toNat : Int)) (fun j => ((g j).toNat : Int)) w
  rw [all_iff] at e
  rw [run_neq_struct]
  show ((Op.equalIn (9998 + 2) 52 (.agg (row 32 fun j => .int .u8 ((f j).toNat : Int)).toArray) (.agg (row 32 fun j => .int .u8 ((g j).toNat : Int)).toArray)).run Tryd.prog w).andThen _ = _
  rw [e]
  rfl
theorem exec_cmp {P : Program} {o : Oper} {a : Act} {w : World} (op : BinOp) (t u : TypeId) (x y : Operand) (ho : o.op = .binOp op t x y u) (X Y : Array Value) (hx : a.eval x = .agg X) (hy : a.eval y = .agg Y)
    (hm : P.eqGuardType P.depth t = false) (r : Bool) (hr : (binOp op t (.agg X) (.agg Y)).run P w = .ok (.bool r) w) : (execOp a.eval o).run P w = .ok (.value (.bool r)) w := by
  unfold execOp
  simp only [ho, hx, hy, Sem.run_bind, run_eqGuard_agg (P := P) w op t x y X Y hm, Result.andThen_ok, hr, Sem.run_pure]
theorem lie_range {a : Addr} {n : Nat} {g : Nat → Value} {w : World} (h : LieAt a n g w) (k m : Nat) (hk : 0 < k) (hm : k + m ≤ n) : w.rangeAt a.block (a.off + k) (row m fun j => g (k + j)) := fun j x hx => by
  obtain ⟨hj, rfl⟩ := row_some hx
  have := h.1 (k + j) (by omega)
  rw [← this]
  unfold Addr.add
  rw [if_neg (by omega), Nat.add_assoc]
theorem BV.cut {a : Addr} {l cap m : Nat} {b : Nat → BitVec 8} {w : World} (h : LieAt a l (yv b) w) (hm : m ≤ l) (hc : m ≤ cap) : BV (.slice (some a) m cap) m b w := .inr ⟨a, cap, rfl, hc, fun j hj => h.1 j (by omega), h.2⟩
set_option maxRecDepth 20000 in
set_option maxHeartbeats 2000000 in
theorem dec_sum (a : Addr) (cap : Nat) (b : Nat → BitVec 8) (w : World) (h : LieAt a 512 (yv b) w) (hcap : 512 ≤ cap) (hC : TabC w) (hd : eqN 32 (shaF b 480) (fun j => b (480 + j)) = false) :
    Calls Tryd.prog 16 #[.slice (some a) 512 cap] w fun e w' => e = .returned (.tuple #[.agg (row 24 (hdv zH)).toArray, .int .i64 110]) ∧ Ext w w' := by
  have Q1 := hideit (RowAt.new w 24 (hdv zH) 27)
  have hE1 := hideit ((Below.refl w.heap.size w).alloc (Nat.le_refl _) (.cells (row 24 (hdv zH)).toArray 27))
  have L1 := hideit (h.carry hE1.out)
  have C1 := hideit (hC.ext hE1.out)
  replace hd := hideit hd
  clear h hC
  go_enter Tryd.func16, Tryd.ntmps16
  go_upto_region 0 with (fail)
  refine wp_region_lit ?_
  refine wpList_to rfl (.pointer (some ⟨w.heap.size, 0, none⟩)) (w.alloc (.cells (row 24 (hdv zH)).toArray 27)) (exec_alloc 27 _ rfl (zeroH w)) ?_
  simp only [Act.put, List.setIfInBounds_toArray, List.set_cons_zero, List.set_cons_succ]
  generalize w.alloc (.cells (row 24 (hdv zH)).toArray 27) = w1 at *
  obtain ⟨q, hq⟩ : ∃ q, q = w.heap.size := ⟨_, rfl⟩
  have hwq : Hid (w.heap.size ≤ q) := hideit (by omega)
  rw [← hq] at Q1 ⊢
  clear hq
  go_upto_region 1 with (fail)
  have l1 := cutLo a cap hcap
  have l2 := cutHi a cap hcap
  have hD : Ext w1 w1.drew := (Ext.refl w1).draw
  refine wp_region_lad (fun X => Ext w1 X) [(false, 0), (false, 1), (false, 2), (false, 3), (false, 4), (false, 5), (false, 7), (false, 8), (false, 9), (false, 10), (true, 6), (false, 11), (false, 12)] (by kernel_rfl) (by kernel_rfl) (by decide +kernel) (by decide +kernel) (by decide +kernel) (by decide +kernel) hD ?_
  refine wpX_f _ (.slice (some a) 512 cap) rfl rfl (fun X _ => by simp [go_sem]) ?_
  simp only [List.getElem_toArray, List.getElem_cons_zero, Act.put, List.setIfInBounds_toArray, List.set_cons_zero, List.set_cons_succ]
  refine wpX_f _ (.int .i64 512) rfl rfl (fun X _ => by simp [go_sem]) ?_
  simp only [List.getElem_toArray, List.getElem_cons_zero, List.getElem_cons_succ, Act.put, List.setIfInBounds_toArray, List.set_cons_zero, List.set_cons_succ]
  refine wpX_f _ (.bool false) rfl rfl (fun X _ => by simp [go_sem]) ?_
  simp only [List.getElem_toArray, List.getElem_cons_zero, List.getElem_cons_succ, Act.put, List.setIfInBounds_toArray, List.set_cons_zero, List.set_cons_succ]
  refine wpX_f _ (.bool false) rfl rfl (fun X _ => by simp [go_sem]) ?_
  simp only [List.getElem_toArray, List.getElem_cons_zero, List.getElem_cons_succ, Act.put, List.setIfInBounds_toArray, List.set_cons_zero, List.set_cons_succ]
  refine wpX_f _ (.slice (some a) 512 cap) rfl rfl (fun X _ => by simp [go_sem]) ?_
  simp only [List.getElem_toArray, List.getElem_cons_zero, List.getElem_cons_succ, Act.put, List.setIfInBounds_toArray, List.set_cons_zero, List.set_cons_succ]
  refine wpX_f _ (.slice (some a) 480 cap) rfl rfl (fun X _ => by simp [go_sem, l1]) ?_
  simp only [List.getElem_toArray, List.getElem_cons_zero, List.getElem_cons_succ, Act.put, List.setIfInBounds_toArray, List.set_cons_zero, List.set_cons_succ]
  refine wpX_f _ (.slice (some a) 512 cap) rfl rfl (fun X _ => by simp [go_sem]) ?_
  simp only [List.getElem_toArray, List.getElem_cons_zero, List.getElem_cons_succ, Act.put, List.setIfInBounds_toArray, List.set_cons_zero, List.set_cons_succ]
  refine wpX_f _ (.slice (some ⟨a.block, a.off + 480, none⟩) 32 (cap - 480)) rfl rfl (fun X _ => by simp [go_sem, l2]) ?_
  simp only [List.getElem_toArray, List.getElem_cons_zero, List.getElem_cons_succ, Act.put, List.setIfInBounds_toArray, List.set_cons_zero, List.set_cons_succ]
  refine wpX_f _ (.pointer (some ⟨a.block, a.off + 480, none⟩)) rfl rfl (fun X _ => by simp [go_sem, arr52]) ?_
  simp only [List.getElem_toArray, List.getElem_cons_zero, List.getElem_cons_succ, Act.put, List.setIfInBounds_toArray, List.set_cons_zero, List.set_cons_succ]
  refine wpX_f _ (.agg (row 32 (yv fun j => b (480 + j))).toArray) rfl rfl (fun X hX => exec_loadR 52 (.tmp 16) rfl a.block (a.off + 480) 32 (yv fun j => b (480 + j)) rfl (lie_range (L1.out.carry hX) 480 32 (by decide) (by decide)) Tryd.underlying52 rfl info52) ?_
  simp only [List.getElem_toArray, List.getElem_cons_zero, List.getElem_cons_succ, Act.put, List.setIfInBounds_toArray, List.set_cons_zero, List.set_cons_succ]
  refine wpX_call _ rfl rfl (by simp [go_sem]) ((sumV (.slice (some a) 480 cap) 480 b w1.drew (BV.cut (L1.out.carry hD) (by decide) (by omega)) (C1.out.ext hD) (by decide)).mono ?_)
  rintro e w2 ⟨rfl, hE2⟩
  refine ⟨_, rfl, fun X => Ext w2 X, fun X hX => Ext.trans (Ext.trans hD hE2) hX, Ext.refl _, ?_⟩
  simp only [List.getElem_toArray, List.getElem_cons_zero, List.getElem_cons_succ, Act.put, List.setIfInBounds_toArray, List.set_cons_zero, List.set_cons_succ]
  refine wpX_f _ (.bool (!(eqN 32 (shaF b 480) fun j => b (480 + j)))) rfl rfl (fun X _ => exec_cmp .neq 52 52 (.tmp 13) (.tmp 17) rfl _ _ rfl rfl (by kernel_rfl) _ (neq52 _ _ X)) ?_
  rw [hd.out]
  simp only [List.getElem_toArray, List.getElem_cons_zero, List.getElem_cons_succ, Act.put, List.setIfInBounds_toArray, List.set_cons_zero, List.set_cons_succ]
  refine wpX_f _ (.bool true) rfl rfl (fun X _ => by simp [go_sem]) ?_
  simp only [List.getElem_toArray, List.getElem_cons_zero, List.getElem_cons_succ, Act.put, List.setIfInBounds_toArray, List.set_cons_zero, List.set_cons_succ]
  refine wpX_nil ?_
  have Q2 := hideit (Q1.out.carry (Ext.trans hD hE2))
  replace hE2 := hideit (Ext.trans hE1.out (Ext.trans hD hE2))
  clear Q1 hE1 L1 C1 l1 l2 hD
  go_upto_region 2 with (fail)
  refine wp_region_lit ?_
  refine wpList_build rfl 27 [] rfl (.agg (row 24 (hdv zH)).toArray) (buildH _) ?_
  simp only [Act.put, List.setIfInBounds_toArray, List.set_cons_zero, List.set_cons_succ]
  refine wpList_store_mid rfl 27 (.tmp 2) (.tmp 20) rfl q 0 (row 24 (hdv zH)).toArray rfl rfl (by rw [row_size]; exact Q2.out.there) (by rw [row_size]; exact infoH) (row_one fun j _ => hdv_one _ j) ?_
  rw [show (row 24 (hdv zH)).toArray.toList = row 24 (hdv zH) from rfl]
  have h9 : Hid (RowAt q 24 (hdv zH) (w2.setCells q 0 (row 24 (hdv zH)))) := hideit Q2.out.cells
  have hE3 := hideit (below_setCells q hwq.out (row 24 (hdv zH)) 0 _ hE2.out)
  generalize w2.setCells q 0 (row 24 (hdv zH)) = w3 at *
  clear Q2 hE2
  simp only [Act.put]
  go_wp2
  exact bodyPost_ret (ret_row2 Tryd.results16 rfl h9.out Tryd.underlying27 rfl infoH) rfl ⟨rfl, hE3.out⟩
end Go.Proofs.YtenlokmoijeehaaDoor
namespace Go.Proofs.YtenlokmoijeehaaDoor
open Go.RowKit Go.BigFrame
theorem fold_list : ∀ (l : List Int) (r : ByteArray), (l.foldl (fun r n => r.push (UInt8.ofNat n.toNat)) r).data.toList = r.data.toList ++ l.map fun n => UInt8.ofNat n.toNat
  | [], r => by simp
  | x :: l, r => by
    rw [List.foldl_cons, fold_list l, List.map_cons]
    show (r.data.push _).toList ++ _ = _
    rw [Array.toList_push, List.append_assoc]
    rfl
def lst (n : Nat) (b : Nat → BitVec 8) : List UInt8 := (List.range n).map fun j => UInt8.ofNat (b j).toNat
theorem bstr_list (n : Nat) (b : Nat → BitVec 8) : (bstr n fun j => ((b j).toNat : Int)).toList = lst n b := by
  rw [ByteArray.toList_eq]
  unfold bstr lst
  rw [fold_list]
  simp
theorem u8_inj {x y : BitVec 8} (h : UInt8.ofNat x.toNat = UInt8.ofNat y.toNat) : x = y := by
  have h1 := congrArg UInt8.toNat h
  simp only [UInt8.toNat_ofNat'] at h1
  have hx := x.isLt
  have hy := y.isLt
  exact BitVec.eq_of_toNat_eq (by omega)
theorem lst_beq (n : Nat) (f g : Nat → BitVec 8) : (lst n f == lst n g) = eqN n f g := by
  rw [Bool.eq_iff_iff, beq_iff_eq, eqN_iff]
  unfold lst
  constructor
  · intro h j hj
    have := congrArg (·[j]?) h
    simp only [List.getElem?_map, List.getElem?_range hj, Option.map_some, Option.some.injEq] at this
    exact u8_inj this
  · intro h
    exact List.map_congr_left fun j hj => by rw [h j (by simpa using hj)]
theorem lst_ne {n m : Nat} (f g : Nat → BitVec 8) (h : n ≠ m) : (lst n f == lst m g) = false := by
  rw [Bool.eq_false_iff]
  intro hh
  have := congrArg List.length (eq_of_beq hh)
  simp only [lst, List.length_map, List.length_range] at this
  exact h this
def mkL : List Nat := [67, 65, 83, 75, 69, 84, 48, 49]
theorem mk_list : (ByteArray.mk #[67, 65, 83, 75, 69, 84, 48, 49]).toList = lst 8 (bT mkL) := by
  rw [ByteArray.toList_eq]
  decide
end Go.Proofs.YtenlokmoijeehaaDoor
