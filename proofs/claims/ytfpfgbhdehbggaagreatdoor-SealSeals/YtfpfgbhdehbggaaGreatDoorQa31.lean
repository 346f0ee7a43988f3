/-
  A record's epoch, the program's and the document's; what may be sealed. Bytes of one's own that grow. A region that draws its order, told as in LadM; classes need to stand the moves of makers alone, what makers have made must stand all moves; no word of the program.
-/
import Derived.Test.YtfpfgbhdehbggaaGreatDoorQa1
import Derived.Test.YtfpfgbhdehbggaaGreatDoorQa30
import Derived.Test.YtfpfgbhdehbggaaGreatDoorQa9
import Derived.Test.YtfpfgbhdehbggaaGreatDoorQa15
import Derived.Test.YtfpfgbhdehbggaaGreatDoorQa14
import Derived.Test.YtfpfgbhdehbggaaGreatDoorQa12
import Derived.Test.YtfpfgbhdehbggaaGreatDoorQa5
import Derived.Test.YtfpfgbhdehbggaaGreatDoorQa13
import Derived.Test.YtfpfgbhdehbggaaGreatDoorQa28
namespace Go.Proofs.YtfpfgbhdehbggaaGreatDoor
open Go.RowKit Go.BigFrame
set_option linter.unusedVariables false
set_option maxRecDepth 20000
def eqN (n : Nat) (f g : Nat → BitVec 8) : Bool := decide (∀ j, j < n → f j = g j)
theorem eqN_iff {n : Nat} {f g : Nat → BitVec 8} : eqN n f g = true ↔ ∀ j, j < n → f j = g j := decide_eq_true_iff
theorem neq26 (f g : Nat → BitVec 8) (r : Bool) (hr : r = true ↔ ∀ j, j < 64 → f j = g j) (w : World) : (binOp .neq 26 (.agg (row 64 (yv f)).toArray) (.agg (row 64 (yv g)).toArray)).run Tryz.prog w = .ok (.bool (!r)) w := by
  have e := equalIn_row (P := Tryz.prog) 9998 26 5 64 .u8 Tryz.underlying26 Tryz.underlying5 Tryz.sizeOf5 (fun j => ((f j).toNat : Int)) (fun j => ((g j).toNat : Int)) w
  have e2 : ((List.range 64).all fun j => ((f j).toNat : Int) == ((g j).toNat : Int)) = r := by rw [Bool.eq_iff_iff, hr, all_iff, decide_eq_true_iff]
  rw [e2] at e
  rw [run_neq_struct]
  show ((Op.equalIn (9998 + 2) 26 (.agg (row 64 fun j => .int .u8 ((f j).toNat : Int)).toArray) (.agg (row 64 fun j => .int .u8 ((g j).toNat : Int)).toArray)).run Tryz.prog w).andThen _ = _
  rw [e]
  rfl
theorem eqG26 : Tryz.prog.eqGuardType Tryz.prog.depth 26 = false := by kernel_rfl
set_option maxRecDepth 20000 in
set_option maxHeartbeats 4000000 in
theorem right_a (e n : Int) (D T : Nat → BitVec 8) (w : World) (h1 : e < 1) : Calls Tryz.prog 17 #[.agg (row 65 (ekI e D T)).toArray, .int .i64 n] w fun e' w' => e' = .returned (.bool false) ∧ Ext w w' := by
  have hE := hideit (Ext.refl w)
  go_enter Tryz.func17, Tryz.ntmps17
  go_upto_region 0 with (fail)
  refine wp_region_lit ?_
  have A0 := hideit (RowAt.new w 65 (ekI e D T) 24)
  have XB : Ext w (w.alloc (.cells (row 65 (ekI e D T)).toArray 24)) := (Below.refl _ _).alloc (Nat.le_refl _) _
  have AE := hideit (Ext.trans hE.out (XB))
  have AB := hideit (hE.out.size)
  clear XB
  refine wpList_to rfl (.pointer (some ⟨w.heap.size, 0, none⟩)) (w.alloc (.cells (row 65 (ekI e D T)).toArray 24)) (by simp [go_sem]) ?_
  simp only [zp0, zp1, zp2, zp3]
  generalize w.alloc (.cells (row 65 (ekI e D T)).toArray 24) = x1 at A0 AE ⊢
  obtain ⟨c2, ec2⟩ : ∃ b, b = w.heap.size := ⟨_, rfl⟩
  have ABc2 : Hid (w.heap.size ≤ c2) := by rw [ec2]; exact AB.out
  clear AB
  rw [← ec2] at A0  ⊢
  clear ec2
  have Hc2 := A0
  clear A0
  replace hE := AE
  clear AE
  refine xm [some (.bool false)] (by kernel_rfl) (by simp [xr, go_sem]) ?_
  simp only [xw, p0, p1, p2, p3]
  go_upto_region 1 with (fail)
  refine wp_region_lit ?_
  have m2 : x1.cell? ⟨c2, 0, none⟩ = some (.int .i64 (e)) := Hc2.out.1 0 (by decide)
  refine xm [some (.pointer (some ⟨c2, 0, none⟩)), some (.int .i64 (e)), some (.bool false), some (.bool false), none, none, none, some (.bool false), some (.bool false), none, none, some (.bool false), some (.bool false), none, none, some (.bool false), some (.bool false)] (by kernel_rfl) (by simp [xr, go_sem, m2, h1]) ?_
  simp only [xw, p0, p1, p2, p3]
  clear m2
  go_wp2
  go_ret
  exact ⟨rfl, hE.out⟩
set_option maxRecDepth 20000 in
set_option maxHeartbeats 4000000 in
theorem right_b (e n : Int) (D T : Nat → BitVec 8) (w : World) (h1 : 1 ≤ e) (h2 : 4294967295 < e) : Calls Tryz.prog 17 #[.agg (row 65 (ekI e D T)).toArray, .int .i64 n] w fun e' w' => e' = .returned (.bool false) ∧ Ext w w' := by
  have hE := hideit (Ext.refl w)
  go_enter Tryz.func17, Tryz.ntmps17
  go_upto_region 0 with (fail)
  refine wp_region_lit ?_
  have A0 := hideit (RowAt.new w 65 (ekI e D T) 24)
  have XB : Ext w (w.alloc (.cells (row 65 (ekI e D T)).toArray 24)) := (Below.refl _ _).alloc (Nat.le_refl _) _
  have AE := hideit (Ext.trans hE.out (XB))
  have AB := hideit (hE.out.size)
  clear XB
  refine wpList_to rfl (.pointer (some ⟨w.heap.size, 0, none⟩)) (w.alloc (.cells (row 65 (ekI e D T)).toArray 24)) (by simp [go_sem]) ?_
  simp only [zp0, zp1, zp2, zp3]
  generalize w.alloc (.cells (row 65 (ekI e D T)).toArray 24) = x1 at A0 AE ⊢
  obtain ⟨c2, ec2⟩ : ∃ b, b = w.heap.size := ⟨_, rfl⟩
  have ABc2 : Hid (w.heap.size ≤ c2) := by rw [ec2]; exact AB.out
  clear AB
  rw [← ec2] at A0  ⊢
  clear ec2
  have Hc2 := A0
  clear A0
  replace hE := AE
  clear AE
  refine xm [some (.bool false)] (by kernel_rfl) (by simp [xr, go_sem]) ?_
  simp only [xw, p0, p1, p2, p3]
  go_upto_region 1 with (fail)
  refine wp_region_lit ?_
  have m2 : x1.cell? ⟨c2, 0, none⟩ = some (.int .i64 (e)) := Hc2.out.1 0 (by decide)
  refine xm [some (.pointer (some ⟨c2, 0, none⟩)), some (.int .i64 (e)), some (.bool true), some (.bool true), some (.pointer (some ⟨c2, 0, none⟩)), some (.int .i64 (e)), some (.bool false), some (.bool false), some (.bool false), none, none, some (.bool false), some (.bool false), none, none, some (.bool false), some (.bool false)] (by kernel_rfl) (by simp [xr, go_sem, m2, h1, h2]) ?_
  simp only [xw, p0, p1, p2, p3]
  clear m2
  go_wp2
  go_ret
  exact ⟨rfl, hE.out⟩
set_option maxRecDepth 20000 in
set_option maxHeartbeats 4000000 in
theorem right_c (e n : Int) (D T : Nat → BitVec 8) (w : World) (h1 : 1 ≤ e) (h2 : e ≤ 4294967295) (h3 : n < 0) : Calls Tryz.prog 17 #[.agg (row 65 (ekI e D T)).toArray, .int .i64 n] w fun e' w' => e' = .returned (.bool false) ∧ Ext w w' := by
  have hE := hideit (Ext.refl w)
  go_enter Tryz.func17, Tryz.ntmps17
  go_upto_region 0 with (fail)
  refine wp_region_lit ?_
  have A0 := hideit (RowAt.new w 65 (ekI e D T) 24)
  have XB : Ext w (w.alloc (.cells (row 65 (ekI e D T)).toArray 24)) := (Below.refl _ _).alloc (Nat.le_refl _) _
  have AE := hideit (Ext.trans hE.out (XB))
  have AB := hideit (hE.out.size)
  clear XB
  refine wpList_to rfl (.pointer (some ⟨w.heap.size, 0, none⟩)) (w.alloc (.cells (row 65 (ekI e D T)).toArray 24)) (by simp [go_sem]) ?_
  simp only [zp0, zp1, zp2, zp3]
  generalize w.alloc (.cells (row 65 (ekI e D T)).toArray 24) = x1 at A0 AE ⊢
  obtain ⟨c2, ec2⟩ : ∃ b, b = w.heap.size := ⟨_, rfl⟩
  have ABc2 : Hid (w.heap.size ≤ c2) := by rw [ec2]; exact AB.out
  clear AB
  rw [← ec2] at A0  ⊢
  clear ec2
  have Hc2 := A0
  clear A0
  replace hE := AE
  clear AE
  refine xm [some (.bool false)] (by kernel_rfl) (by simp [xr, go_sem]) ?_
  simp only [xw, p0, p1, p2, p3]
  go_upto_region 1 with (fail)
  refine wp_region_lit ?_
  have m2 : x1.cell? ⟨c2, 0, none⟩ = some (.int .i64 (e)) := Hc2.out.1 0 (by decide)
  refine xm [some (.pointer (some ⟨c2, 0, none⟩)), some (.int .i64 (e)), some (.bool true), some (.bool true), some (.pointer (some ⟨c2, 0, none⟩)), some (.int .i64 (e)), some (.bool true), some (.bool true), some (.bool true), some (.int .i64 (n)), some (.bool false), some (.bool false), some (.bool false), none, none, some (.bool false), some (.bool false)] (by kernel_rfl) (by simp [xr, go_sem, m2, h1, h2, h3]) ?_
  simp only [xw, p0, p1, p2, p3]
  clear m2
  go_wp2
  go_ret
  exact ⟨rfl, hE.out⟩
set_option maxRecDepth 20000 in
set_option maxHeartbeats 4000000 in
theorem right_d (e n : Int) (D T : Nat → BitVec 8) (w : World) (h1 : 1 ≤ e) (h2 : e ≤ 4294967295) (h3 : 0 ≤ n) (h4 : 1024 ≤ n) : Calls Tryz.prog 17 #[.agg (row 65 (ekI e D T)).toArray, .int .i64 n] w fun e' w' => e' = .returned (.bool false) ∧ Ext w w' := by
  have hE := hideit (Ext.refl w)
  go_enter Tryz.func17, Tryz.ntmps17
  go_upto_region 0 with (fail)
  refine wp_region_lit ?_
  have A0 := hideit (RowAt.new w 65 (ekI e D T) 24)
  have XB : Ext w (w.alloc (.cells (row 65 (ekI e D T)).toArray 24)) := (Below.refl _ _).alloc (Nat.le_refl _) _
  have AE := hideit (Ext.trans hE.out (XB))
  have AB := hideit (hE.out.size)
  clear XB
  refine wpList_to rfl (.pointer (some ⟨w.heap.size, 0, none⟩)) (w.alloc (.cells (row 65 (ekI e D T)).toArray 24)) (by simp [go_sem]) ?_
  simp only [zp0, zp1, zp2, zp3]
  generalize w.alloc (.cells (row 65 (ekI e D T)).toArray 24) = x1 at A0 AE ⊢
  obtain ⟨c2, ec2⟩ : ∃ b, b = w.heap.size := ⟨_, rfl⟩
  have ABc2 : Hid (w.heap.size ≤ c2) := by rw [ec2]; exact AB.out
  clear AB
  rw [← ec2] at A0  ⊢
  clear ec2
  have Hc2 := A0
  clear A0
  replace hE := AE
  clear AE
  refine xm [some (.bool false)] (by kernel_rfl) (by simp [xr, go_sem]) ?_
  simp only [xw, p0, p1, p2, p3]
  go_upto_region 1 with (fail)
  refine wp_region_lit ?_
  have m2 : x1.cell? ⟨c2, 0, none⟩ = some (.int .i64 (e)) := Hc2.out.1 0 (by decide)
  refine xm [some (.pointer (some ⟨c2, 0, none⟩)), some (.int .i64 (e)), some (.bool true), some (.bool true), some (.pointer (some ⟨c2, 0, none⟩)), some (.int .i64 (e)), some (.bool true), some (.bool true), some (.bool true), some (.int .i64 (n)), some (.bool true), some (.bool true), some (.bool true), some (.int .i64 (n)), some (.bool false), some (.bool false), some (.bool false)] (by kernel_rfl) (by simp [xr, go_sem, m2, h1, h2, h3, h4]) ?_
  simp only [xw, p0, p1, p2, p3]
  clear m2
  go_wp2
  go_ret
  exact ⟨rfl, hE.out⟩
set_option maxRecDepth 20000 in
set_option maxHeartbeats 4000000 in
theorem right_e (e n : Int) (D T : Nat → BitVec 8) (w : World) (h1 : 1 ≤ e) (h2 : e ≤ 4294967295) (h3 : 0 ≤ n) (h4 : n < 1024) : Calls Tryz.prog 17 #[.agg (row 65 (ekI e D T)).toArray, .int .i64 n] w fun e' w' => e' = .returned (.bool true) ∧ Ext w w' := by
  have hE := hideit (Ext.refl w)
  go_enter Tryz.func17, Tryz.ntmps17
  go_upto_region 0 with (fail)
  refine wp_region_lit ?_
  have A0 := hideit (RowAt.new w 65 (ekI e D T) 24)
  have XB : Ext w (w.alloc (.cells (row 65 (ekI e D T)).toArray 24)) := (Below.refl _ _).alloc (Nat.le_refl _) _
  have AE := hideit (Ext.trans hE.out (XB))
  have AB := hideit (hE.out.size)
  clear XB
  refine wpList_to rfl (.pointer (some ⟨w.heap.size, 0, none⟩)) (w.alloc (.cells (row 65 (ekI e D T)).toArray 24)) (by simp [go_sem]) ?_
  simp only [zp0, zp1, zp2, zp3]
  generalize w.alloc (.cells (row 65 (ekI e D T)).toArray 24) = x1 at A0 AE ⊢
  obtain ⟨c2, ec2⟩ : ∃ b, b = w.heap.size := ⟨_, rfl⟩
  have ABc2 : Hid (w.heap.size ≤ c2) := by rw [ec2]; exact AB.out
  clear AB
  rw [← ec2] at A0  ⊢
  clear ec2
  have Hc2 := A0
  clear A0
  replace hE := AE
  clear AE
  refine xm [some (.bool false)] (by kernel_rfl) (by simp [xr, go_sem]) ?_
  simp only [xw, p0, p1, p2, p3]
  go_upto_region 1 with (fail)
  refine wp_region_lit ?_
  have m2 : x1.cell? ⟨c2, 0, none⟩ = some (.int .i64 (e)) := Hc2.out.1 0 (by decide)
  refine xm [some (.pointer (some ⟨c2, 0, none⟩)), some (.int .i64 (e)), some (.bool true), some (.bool true), some (.pointer (some ⟨c2, 0, none⟩)), some (.int .i64 (e)), some (.bool true), some (.bool true), some (.bool true), some (.int .i64 (n)), some (.bool true), some (.bool true), some (.bool true), some (.int .i64 (n)), some (.bool true), some (.bool true), some (.bool true)] (by kernel_rfl) (by simp [xr, go_sem, m2, h1, h2, h3, h4]) ?_
  simp only [xw, p0, p1, p2, p3]
  clear m2
  go_wp2
  go_ret
  exact ⟨rfl, hE.out⟩
theorem sright_any (e n : Int) (D T : Nat → BitVec 8) (w : World) : Calls Tryz.prog 17 #[.agg (row 65 (ekI e D T)).toArray, .int .i64 n] w fun e' w' => e' = .returned (.bool (decide (okK e n))) ∧ Ext w w' := by
  by_cases h1 : e < 1
  · rw [show decide (okK e n) = false from decide_eq_false (by unfold okK; omega)]
    exact right_a e n D T w h1
  by_cases h2 : 4294967295 < e
  · rw [show decide (okK e n) = false from decide_eq_false (by unfold okK; omega)]
    exact right_b e n D T w (by omega) h2
  by_cases h3 : n < 0
  · rw [show decide (okK e n) = false from decide_eq_false (by unfold okK; omega)]
    exact right_c e n D T w (by omega) (by omega) h3
  by_cases h4 : 1024 ≤ n
  · rw [show decide (okK e n) = false from decide_eq_false (by unfold okK; omega)]
    exact right_d e n D T w (by omega) (by omega) (by omega) h4
  rw [show decide (okK e n) = true from decide_eq_true (by unfold okK; omega)]
  exact right_e e n D T w (by omega) (by omega) (by omega) (by omega)
end Go.Proofs.YtfpfgbhdehbggaaGreatDoor
namespace Go.Proofs.YtfpfgbhdehbggaaGreatDoor
open Go.RowKit Go.BigFrame
set_option linter.unusedVariables false
set_option maxRecDepth 20000
def GB (w0 : World) (v : Value) (n : Nat) (f : Nat → BitVec 8) (X : World) : Prop := OwnB w0.heap.size 5 v n (yv f) X ∧ Ext w0 X
theorem GB.ext {w0 : World} {v : Value} {n : Nat} {f : Nat → BitVec 8} {X Y : World} (h : GB w0 v n f X) (k : Ext X Y) : GB w0 v n f Y := ⟨h.1.ext k, Ext.trans h.2 k⟩
theorem GB.bv {w0 : World} {v : Value} {n : Nat} {f : Nat → BitVec 8} {X : World} (h : GB w0 v n f X) : BV v n f X := h.1.bv
theorem GB.form {w0 : World} {v : Value} {n : Nat} {f : Nat → BitVec 8} {X : World} (h : GB w0 v n f X) : ∃ o c, v = .slice o n c := h.1.bv.form
theorem GB.congr {w0 : World} {v : Value} {n m : Nat} {f g : Nat → BitVec 8} {X : World} (h : GB w0 v n f X) (hn : n = m) (e : ∀ j, j < n → f j = g j) : GB w0 v m g X := by
  subst hn
  exact ⟨h.1.congr fun j hj => by simp only [yv, e j hj], h.2⟩
theorem GB.nil (w0 : World) {X : World} (h : Ext w0 X) (f : Nat → BitVec 8) : GB w0 (.slice none 0 0) 0 f X := ⟨own_nil _ _ _ _, h⟩
theorem GB.empty (w0 : World) {X : World} (h : Ext w0 X) (f : Nat → BitVec 8) : GB w0 (.slice (some ⟨X.heap.size, 0, none⟩) 0 0) 0 f (X.alloc (.cells #[] 5)) := ⟨own_empty X _ 5 _ (Below.size h), Below.alloc h (Below.size h) _⟩
theorem GB.of {w0 : World} {v : Value} {n : Nat} {f : Nat → BitVec 8} {X Y : World} (h : Ext w0 X) (hO : OwnB X.heap.size 5 v n (yv f) Y) (k : Ext X Y) : GB w0 v n f Y := ⟨hO.down (Below.size h), Ext.trans h k⟩
theorem wpList_gb {ops : Array Oper} {rest : List Oper} {o : Oper} {a : Act} {Q : Exit → Act → World → Prop} {w0 X : World} {v : Value} {n : Nat} {f : Nat → BitVec 8} (hgd : o.guard = none) (s x : Operand)
    (ho : o.op = .call { callee := .builtin .append, args := #[s, x], argTypes := #[25, 25] }) (hs : a.eval s = v) (hG : GB w0 v n f X) (xv : Value) (l : Nat) (b : Nat → BitVec 8) (hx : a.eval x = xv) (hb : BV xv l b X) (hn : n + l ≤ 140737488355328)
    (h : ∀ v' X', GB w0 v' (n + l) (catF f n b) X' → wpList Tryz.prog ops Q rest (a.put o.dst v') X') : wpList Tryz.prog ops Q (o :: rest) a X := by
  refine wpList_growV (n := n) (base := w0.heap.size) elem22 hgd s x ho hs hG.1 xv l b (yv (catF f n b)) hx hb (fun j hj => by simp only [catF, yv, if_pos hj]) (fun j hj => by simp only [catF, yv, if_neg (show ¬ n + j < n by omega), Nat.add_sub_cancel_left]) hn (Below.size hG.2) ?_
  intro v' X' hO hg
  exact h v' X' ⟨hO, Below.trans hG.2 (below_grown (Below.size hG.2) hg fun k hk => (hG.1.lt k hk).1)⟩
theorem BV.congr {v : Value} {l : Nat} {f g : Nat → BitVec 8} {w : World} (h : BV v l f w) (e : ∀ j, j < l → f j = g j) : BV v l g w := by
  rcases h with h | ⟨a, c, h1, h2, h3⟩
  · exact .inl h
  · exact .inr ⟨a, c, h1, h2, fun j hj => by rw [h3.1 j hj]; simp only [yv, e j hj], h3.2⟩
theorem exec_append {P : Program} {o : Oper} {a : Act} {w w' : World} (s x : Operand) (t u : TypeId) (ho : o.op = .call { callee := .builtin .append, args := #[s, x], argTypes := #[t, u] }) (v y v' : Value) (hs : a.eval s = v) (hx : a.eval x = y) (hr : (Builtin.append_ #[t, u] o.type #[v, y]).run P w = .ok v' w') : (execOp a.eval o).run P w = .ok (.value v') w' := by
  unfold execOp
  simp only [ho, resolve, invoke, builtin, Sem.run_bind, Sem.run_pure, Result.andThen_ok, List.map_toArray, List.map_cons, List.map_nil, hs, hx, hr]
theorem run_gbC {w0 X : World} {n : Nat} {f : Nat → BitVec 8} (ty : TypeId) (hE : Ext w0 X) (ad0 : Addr) (hf : BV (.slice (some ad0) n n) n f X) (xv : Value) (m : Nat) (b : Nat → BitVec 8) (hb : BV xv m b X) (hm : 0 < m) (hnm : n + m ≤ 1000000) :
    ∃ v' Y, (Builtin.append_ #[25, 25] ty #[.slice (some ad0) n n, xv]).run Tryz.prog X = .ok v' Y ∧ GB w0 v' (n + m) (catF f n b) Y ∧ Ext X Y := by
  rcases hb with ⟨_, h0⟩ | ⟨ad, c, rfl, _, hl⟩
  · omega
  have hf' : LieAt ad0 n (yv f) X := by
    rcases hf with ⟨h, _⟩ | ⟨a', c, h, _, hl⟩
    · cases h
    · injection h with h
      injection h with h
      subst h
      exact hl
  obtain ⟨i, z, e1, e2, e3, e4, e5⟩ := elem22.info
  obtain ⟨v', Y, h1, h2, h3⟩ := run_append_arg_grows (P := Tryz.prog) X 25 ty 5 i z 1 1 elem22.slice e1 e2 e3 e4 e5 (by decide) ad0 n n (row n (yv f)) (by rw [row_length, Nat.mul_one]) (fun j u hj => by
    obtain ⟨hj', rfl⟩ := row_some hj
    exact hf'.1 j hj') ad m c (row m (yv b)) (by rw [row_length, Nat.mul_one]) (fun j u hj => by
    obtain ⟨hj', rfl⟩ := row_some hj
    exact hl.1 j hj') (by omega) (by unfold maxLen; omega) (by omega)
  have hXY : Ext X Y := ⟨h3.os, h3.tape, h3.output, h3.size, fun k hk => h3.block k hk (by simp)⟩
  refine ⟨v', Y, h1, GB.of hE ?_ hXY, hXY⟩
  unfold OwnB
  rw [row_append n m (yv f) (yv b) (yv (catF f n b)) (fun j hj => by simp only [yv]; unfold catF; rw [if_pos hj]) (fun j hj => by simp only [yv]; unfold catF; rw [if_neg (by omega), Nat.add_sub_cancel_left])] at h2
  exact h2
end Go.Proofs.YtfpfgbhdehbggaaGreatDoor
namespace Go.Proofs.YtfpfgbhdehbggaaGreatDoor
open Go.RowKit
set_option linter.unusedVariables false
section
variable {P : Program} {ops : Array Oper} {Q : Exit → Act → World → Prop} {brk fin : List Nat} {Mk Mv : World → World → Prop} {R : Nat → Value → World → Prop} {C0 : World → Prop}
def MakJ (P : Program) (ops : Array Oper) (C0 : World → Prop) (Mk : World → World → Prop) (o : Oper) (R : Value → World → Prop) (a : Act) : Prop :=
  ∀ X, C0 X → EffY P ops o X (fun v X' => R v X' ∧ Mk X X') a
theorem MakJ.put {o : Oper} {T : Value → World → Prop} {u : Value} {a : Act} {d : Option Tmp} (hs : ∀ cs b, o.op ≠ .select cs b) (h : ∀ t, d = some t → t ∉ o.looksAt ops) : MakJ P ops C0 Mk o T (a.put d u) ↔ MakJ P ops C0 Mk o T a := by
  unfold MakJ
  exact ⟨fun k X hX => (EffY.put hs h).1 (k X hX), fun k X hX => (EffY.put hs h).2 (k X hX)⟩
def wpJ (P : Program) (ops : Array Oper) (Q : Exit → Act → World → Prop) (brk fin : List Nat) (Mk Mv : World → World → Prop) (R : Nat → Value → World → Prop) (C0 : World → Prop) : List (Nat × Nat) → (World → Prop) → Act → Prop
  | [], C, a => ∀ w, C w → Q .normal a w
  | (0, i) :: r, C, a => ∃ o v, ops[i]? = some o ∧ StrC P ops C0 o v a ∧ wpJ P ops Q brk fin Mk Mv R C0 r C (a.put o.dst v)
  | (1, i) :: r, C, a => ∃ o, ops[i]? = some o ∧ ∀ X, C X → EffY P ops o X (fun v X' => ∃ C' : World → Prop, C' X' ∧ (i ∈ brk ∨ (i ∈ fin ∧ ∀ Y, C' Y → C0 Y) ∨ ((∀ Y, C' Y → C0 Y) ∧ Mv X X' ∧ Cl Mk C')) ∧ wpJ P ops Q brk fin Mk Mv R C0 r C' (a.put o.dst v)) a
  | (2, i) :: r, C, a => ∃ o, ops[i]? = some o ∧ MakJ P ops C0 Mk o (R i) a ∧ ∀ v, (∃ X, C X ∧ R i v X) → wpJ P ops Q brk fin Mk Mv R C0 r (fun X => C X ∧ R i v X) (a.put o.dst v)
  | (_ + 3, i) :: r, C, a => ∃ o v, ops[i]? = some o ∧ StrC P ops C o v a ∧ wpJ P ops Q brk fin Mk Mv R C0 r C (a.put o.dst v)
structure LadJAt (P : Program) (ops : Array Oper) (Q : Exit → Act → World → Prop) (brk fin : List Nat) (Mk Mv : World → World → Prop) (R : Nat → Value → World → Prop) (C0 : World → Prop) (l : List (Nat × Nat)) (L : Array Bool) (A : Act) (w : World) : Prop where
  size : L.size = ops.size
  closed : Closed ops L
  way : ∃ C : World → Prop, C w ∧ ((∀ X, C X → C0 X) ∨ ∀ p ∈ lfm L l, p.1 ≠ 0 ∧ p.1 ≠ 2) ∧ (Cl Mk C ∨ ∀ p ∈ lfm L l, p.1 ≠ 2) ∧ wpJ P ops Q brk fin Mk Mv R C0 (lfm L l) C A
end
end Go.Proofs.YtfpfgbhdehbggaaGreatDoor
