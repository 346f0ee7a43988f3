/-
  A record changes no other one. Records in any case; the document's Record. The document's With.
-/
import Derived.Test.YtgjabfjkokpkiaaDoorQ38
import Derived.Test.YtgjabfjkokpkiaaDoorQ28
import Derived.Test.YtgjabfjkokpkiaaDoorQ15
import Derived.Test.YtgjabfjkokpkiaaDoorQ1
import Derived.Test.YtgjabfjkokpkiaaDoorQ34
namespace Go.Proofs.YtgjabfjkokpkiaaDoor
open Go.RowKit Go.BigFrame
set_option linter.unusedVariables false
set_option maxRecDepth 20000
theorem neq23 (f g : Nat → BitVec 8) (r : Bool) (hr : r = true ↔ ∀ j, j < 64 → f j = g j) (w : World) : (binOp .neq 23 (.agg (row 64 (yv f)).toArray) (.agg (row 64 (yv g)).toArray)).run Tryd.prog w = .ok (.bool (!r)) w := by
  have e := equalIn_row (P := Tryd.prog) 9998 23 5 64 .u8 Tryd.underlying23 Tryd.underlying5 Tryd.sizeOf5 (fun j => ((f j).toNat : Int)) (fun j => ((g j).toNat : Int)) w
  have e2 : ((List.range 64).all fun j => ((f j).toNat : Int) == ((g j).toNat : Int)) = r := by rw [Bool.eq_iff_iff, hr, all_iff, decide_eq_true_iff]
  rw [e2] at e
  rw [run_neq_struct]
  show ((Op.equalIn (9998 + 2) 23 (.agg (row 64 fun j => .int .u8 ((f j).toNat : Int)).toArray) (.agg (row 64 fun j => .int .u8 ((g j).toNat : Int)).toArray)).run Tryd.prog w).andThen _ = _
  rw [e]
  rfl
theorem eqG23 : Tryd.prog.eqGuardType Tryd.prog.depth 23 = false := by kernel_rfl
theorem tgE_ok {l : Nat} {n : Int} (h : tgE l n = 0) : l = 512 ∧ 0 ≤ n := by
  unfold tgE at h
  by_cases h1 : n < 0
  · rw [if_pos h1] at h; cases h
  · rw [if_neg h1] at h
    by_cases h2 : l = 512
    · exact ⟨h2, by omega⟩
    · rw [if_neg h2] at h; cases h
end Go.Proofs.YtgjabfjkokpkiaaDoor
namespace Go.Proofs.YtgjabfjkokpkiaaDoor
open Go.RowKit Go.BigFrame
set_option linter.unusedVariables false
set_option maxRecDepth 20000
def reF (T : Nat → BitVec 8) (l : Nat) (n : Int) (j : Nat) : BitVec 8 := if tgE l n = 0 then recF T n.toNat j else 0#8
def reP (T : Nat → BitVec 8) (n i j : Nat) : BitVec 8 := if j < i then recF T n j else 0#8
theorem re_next (T : Nat → BitVec 8) (n i k : Nat) (hk : k = n % 8 * 64 + i) (j : Nat) (hj : j < 64) : (if j = i then Value.int .u8 ((T k).toNat : Int) else yv (reP T n i) j) = yv (reP T n (i + 1)) j := by
  subst hk
  unfold yv reP
  by_cases e : j = i
  · subst e
    rw [if_pos rfl, if_pos (by omega)]
    rfl
  · rw [if_neg e]
    by_cases e2 : j < i
    · rw [if_pos e2, if_pos (by omega)]
    · rw [if_neg e2, if_neg (by omega)]
set_option maxRecDepth 20000 in
set_option maxHeartbeats 4000000 in
theorem rrec_neg (o : Option Addr) (l k : Nat) (n : Int) (w : World) (hn : n < 0) : Calls Tryd.prog 10 #[.slice o l k, .int .i64 n] w fun e w' => e = .returned (.tuple #[.agg (row 64 (yv fun _ => 0#8)).toArray, .int .i64 1]) ∧ Ext w w' := by
  have hE := hideit (Ext.refl w)
  go_enter Tryd.func10, Tryd.ntmps10
  go_upto_region 0 with (fail)
  refine wp_region_lit ?_
  have A0 := hideit (RowAt.new w 64 (yv fun _ => 0#8) 23)
  have AE := hideit (Below.alloc hE.out (Below.size hE.out) (.cells (row 64 (yv fun _ => 0#8)).toArray 23))
  have AB := hideit (Below.size hE.out)
  refine wpList_to rfl (.pointer (some ⟨w.heap.size, 0, none⟩)) (w.alloc (.cells (row 64 (yv fun _ => 0#8)).toArray 23)) (xalloc 23 (row 64 (yv fun _ => 0#8)).toArray rfl (zero23 w)) ?_
  simp only [zp0, zp1, zp2, zp3]
  generalize w.alloc (.cells (row 64 (yv fun _ => 0#8)).toArray 23) = x2 at A0 AE ⊢
  obtain ⟨z1, ez1⟩ : ∃ b, b = w.heap.size := ⟨_, rfl⟩
  replace AB : Hid (w.heap.size ≤ z1) := by rw [ez1]; exact AB.out
  rw [← ez1] at A0  ⊢
  clear ez1
  have Hz1 := A0
  clear A0
  replace hE := AE
  clear AE
  have ABz1 := AB
  clear AB
  refine xm [some (.int .i64 0)] (by kernel_rfl) (by simp [xr, go_sem]) ?_
  simp only [xw, p0, p1, p2, p3]
  go_upto_region 1 with (fail)
  refine wp_region_lit ?_
  have A0 := hideit (RowAt.new x2 64 (yv fun _ => 0#8) 23)
  have A1 := hideit (Hz1.out.alloc (.cells (row 64 (yv fun _ => 0#8)).toArray 23))
  have AE := hideit (Below.alloc hE.out (Below.size hE.out) (.cells (row 64 (yv fun _ => 0#8)).toArray 23))
  have AB := hideit (Below.size hE.out)
  have D0 : Hid (z1 ≠ x2.heap.size) := Nat.ne_of_lt Hz1.out.2.2
  refine wpList_to rfl (.pointer (some ⟨x2.heap.size, 0, none⟩)) (x2.alloc (.cells (row 64 (yv fun _ => 0#8)).toArray 23)) (xalloc 23 (row 64 (yv fun _ => 0#8)).toArray rfl (zero23 x2)) ?_
  simp only [zp0, zp1, zp2, zp3]
  generalize x2.alloc (.cells (row 64 (yv fun _ => 0#8)).toArray 23) = x4 at A0 A1 AE ⊢
  obtain ⟨z3, ez3⟩ : ∃ b, b = x2.heap.size := ⟨_, rfl⟩
  replace AB : Hid (w.heap.size ≤ z3) := by rw [ez3]; exact AB.out
  rw [← ez3] at A0 D0 ⊢
  clear ez3
  have Hz3 := A0
  clear A0
  replace Hz1 := A1
  clear A1
  replace hE := AE
  clear AE
  have ABz3 := AB
  clear AB
  have Dz3_0 := D0
  clear D0
  go_upto_region 2 with (fail)
  refine wp_region_lit ?_
  refine xm [some (.int .i64 (n)), some (.bool true)] (by kernel_rfl) (by simp [xr, go_sem, hn]) ?_
  simp only [xw, p0, p1, p2, p3]
  go_upto_region 3 with (fail)
  refine wp_region_lit ?_
  refine wpList_run rfl (.agg (row 64 (yv fun _ => 0#8)).toArray) (xload 23 (.tmp 6) rfl z3 0 64 _ rfl Hz3.out.range Tryd.underlying23 rfl inf23) ?_
  simp only [zp0, zp1, zp2, zp3]
  have N0 := hideit (Hz1.out.cells (g' := yv fun _ => 0#8))
  have N1 := hideit (Hz3.out.cellsOther (Dz3_0.out) (row 64 (yv fun _ => 0#8)) 0)
  have NE := hideit (below_setCells z1 (ABz1.out) (row 64 (yv fun _ => 0#8)) 0 _ hE.out)
  refine xst rfl (x4.setCells z1 0 (row 64 (yv fun _ => 0#8))) (xstore 23 (.tmp 4) (.tmp 10) rfl z1 64 _ (yv fun _ => 0#8) rfl rfl Hz1.out inf23 (fun j _ => rfl)) ?_
  simp only [Act.put]
  generalize x4.setCells z1 0 (row 64 (yv fun _ => 0#8)) = x5 at N0 N1 NE ⊢
  replace Hz1 := N0
  replace Hz3 := N1
  replace hE := NE
  clear N0 N1 NE
  refine xm [some (.int .i64 1)] (by kernel_rfl) (by simp [xr, go_sem]) ?_
  simp only [xw, p0, p1, p2, p3]
  go_wp2
  refine bodyPost_ret (ret_row2 rfl rfl Hz1.out Tryd.underlying23 rfl inf23) rfl ?_
  exact ⟨rfl, hE.out⟩
set_option maxRecDepth 20000 in
set_option maxHeartbeats 4000000 in
theorem rrec_bad (o : Option Addr) (l k : Nat) (n : Int) (w : World) (hn9 : ¬ n < 0) (hl9 : ¬ (l : Int) = 512) : Calls Tryd.prog 10 #[.slice o l k, .int .i64 n] w fun e w' => e = .returned (.tuple #[.agg (row 64 (yv fun _ => 0#8)).toArray, .int .i64 101]) ∧ Ext w w' := by
  have hn : 0 ≤ n := by omega
  have hl : ¬ (l : Int) = 512 := hl9
  have hE := hideit (Ext.refl w)
  go_enter Tryd.func10, Tryd.ntmps10
  go_upto_region 0 with (fail)
  refine wp_region_lit ?_
  have A0 := hideit (RowAt.new w 64 (yv fun _ => 0#8) 23)
  have AE := hideit (Below.alloc hE.out (Below.size hE.out) (.cells (row 64 (yv fun _ => 0#8)).toArray 23))
  have AB := hideit (Below.size hE.out)
  refine wpList_to rfl (.pointer (some ⟨w.heap.size, 0, none⟩)) (w.alloc (.cells (row 64 (yv fun _ => 0#8)).toArray 23)) (xalloc 23 (row 64 (yv fun _ => 0#8)).toArray rfl (zero23 w)) ?_
  simp only [zp0, zp1, zp2, zp3]
  generalize w.alloc (.cells (row 64 (yv fun _ => 0#8)).toArray 23) = x2 at A0 AE ⊢
  obtain ⟨z1, ez1⟩ : ∃ b, b = w.heap.size := ⟨_, rfl⟩
  replace AB : Hid (w.heap.size ≤ z1) := by rw [ez1]; exact AB.out
  rw [← ez1] at A0  ⊢
  clear ez1
  have Hz1 := A0
  clear A0
  replace hE := AE
  clear AE
  have ABz1 := AB
  clear AB
  refine xm [some (.int .i64 0)] (by kernel_rfl) (by simp [xr, go_sem]) ?_
  simp only [xw, p0, p1, p2, p3]
  go_upto_region 1 with (fail)
  refine wp_region_lit ?_
  have A0 := hideit (RowAt.new x2 64 (yv fun _ => 0#8) 23)
  have A1 := hideit (Hz1.out.alloc (.cells (row 64 (yv fun _ => 0#8)).toArray 23))
  have AE := hideit (Below.alloc hE.out (Below.size hE.out) (.cells (row 64 (yv fun _ => 0#8)).toArray 23))
  have AB := hideit (Below.size hE.out)
  have D0 : Hid (z1 ≠ x2.heap.size) := Nat.ne_of_lt Hz1.out.2.2
  refine wpList_to rfl (.pointer (some ⟨x2.heap.size, 0, none⟩)) (x2.alloc (.cells (row 64 (yv fun _ => 0#8)).toArray 23)) (xalloc 23 (row 64 (yv fun _ => 0#8)).toArray rfl (zero23 x2)) ?_
  simp only [zp0, zp1, zp2, zp3]
  generalize x2.alloc (.cells (row 64 (yv fun _ => 0#8)).toArray 23) = x4 at A0 A1 AE ⊢
  obtain ⟨z3, ez3⟩ : ∃ b, b = x2.heap.size := ⟨_, rfl⟩
  replace AB : Hid (w.heap.size ≤ z3) := by rw [ez3]; exact AB.out
  rw [← ez3] at A0 D0 ⊢
  clear ez3
  have Hz3 := A0
  clear A0
  replace Hz1 := A1
  clear A1
  replace hE := AE
  clear AE
  have ABz3 := AB
  clear AB
  have Dz3_0 := D0
  clear D0
  go_upto_region 2 with (fail)
  refine wp_region_lit ?_
  refine xm [some (.int .i64 (n)), some (.bool false)] (by kernel_rfl) (by simp [xr, go_sem, hn]) ?_
  simp only [xw, p0, p1, p2, p3]
  go_upto_region 4 with (fail)
  refine wp_region_lit ?_
  refine xm [some (.slice o l k), some (.int .i64 (l : Int)), some (.bool true)] (by kernel_rfl) (by simp [xr, go_sem, hl]) ?_
  simp only [xw, p0, p1, p2, p3]
  go_upto_region 5 with (fail)
  refine wp_region_lit ?_
  refine wpList_run rfl (.agg (row 64 (yv fun _ => 0#8)).toArray) (xload 23 (.tmp 6) rfl z3 0 64 _ rfl Hz3.out.range Tryd.underlying23 rfl inf23) ?_
  simp only [zp0, zp1, zp2, zp3]
  have N0 := hideit (Hz1.out.cells (g' := yv fun _ => 0#8))
  have N1 := hideit (Hz3.out.cellsOther (Dz3_0.out) (row 64 (yv fun _ => 0#8)) 0)
  have NE := hideit (below_setCells z1 (ABz1.out) (row 64 (yv fun _ => 0#8)) 0 _ hE.out)
  refine xst rfl (x4.setCells z1 0 (row 64 (yv fun _ => 0#8))) (xstore 23 (.tmp 4) (.tmp 14) rfl z1 64 _ (yv fun _ => 0#8) rfl rfl Hz1.out inf23 (fun j _ => rfl)) ?_
  simp only [Act.put]
  generalize x4.setCells z1 0 (row 64 (yv fun _ => 0#8)) = x5 at N0 N1 NE ⊢
  replace Hz1 := N0
  replace Hz3 := N1
  replace hE := NE
  clear N0 N1 NE
  refine xm [some (.int .i64 101)] (by kernel_rfl) (by simp [xr, go_sem]) ?_
  simp only [xw, p0, p1, p2, p3]
  go_wp2
  refine bodyPost_ret (ret_row2 rfl rfl Hz1.out Tryd.underlying23 rfl inf23) rfl ?_
  exact ⟨rfl, hE.out⟩
set_option maxRecDepth 20000 in
set_option maxHeartbeats 4000000 in
theorem rrec_ok (a : Addr) (k n : Nat) (T : Nat → BitVec 8) (w : World) (hV : LieAt a 512 (yv T) w) : Calls Tryd.prog 10 #[.slice (some a) 512 k, .int .i64 (n : Int)] w fun e w' => e = .returned (.tuple #[.agg (row 64 (yv (recF T n))).toArray, .int .i64 0]) ∧ Ext w w' := by
  have hn0 : ¬ (n : Int) < 0 := by omega
  replace hV := hideit hV
  have hE := hideit (Ext.refl w)
  go_enter Tryd.func10, Tryd.ntmps10
  go_upto_region 0 with (fail)
  refine wp_region_lit ?_
  have A0 := hideit (RowAt.new w 64 (yv fun _ => 0#8) 23)
  have AE := hideit (Below.alloc hE.out (Below.size hE.out) (.cells (row 64 (yv fun _ => 0#8)).toArray 23))
  have AB := hideit (Below.size hE.out)
  refine wpList_to rfl (.pointer (some ⟨w.heap.size, 0, none⟩)) (w.alloc (.cells (row 64 (yv fun _ => 0#8)).toArray 23)) (xalloc 23 (row 64 (yv fun _ => 0#8)).toArray rfl (zero23 w)) ?_
  simp only [zp0, zp1, zp2, zp3]
  generalize w.alloc (.cells (row 64 (yv fun _ => 0#8)).toArray 23) = x2 at A0 AE ⊢
  obtain ⟨z1, ez1⟩ : ∃ b, b = w.heap.size := ⟨_, rfl⟩
  replace AB : Hid (w.heap.size ≤ z1) := by rw [ez1]; exact AB.out
  rw [← ez1] at A0  ⊢
  clear ez1
  have Hz1 := A0
  clear A0
  replace hE := AE
  clear AE
  have ABz1 := AB
  clear AB
  refine xm [some (.int .i64 0)] (by kernel_rfl) (by simp [xr, go_sem]) ?_
  simp only [xw, p0, p1, p2, p3]
  go_upto_region 1 with (fail)
  refine wp_region_lit ?_
  have A0 := hideit (RowAt.new x2 64 (yv fun _ => 0#8) 23)
  have A1 := hideit (Hz1.out.alloc (.cells (row 64 (yv fun _ => 0#8)).toArray 23))
  have AE := hideit (Below.alloc hE.out (Below.size hE.out) (.cells (row 64 (yv fun _ => 0#8)).toArray 23))
  have AB := hideit (Below.size hE.out)
  have D0 : Hid (z1 ≠ x2.heap.size) := Nat.ne_of_lt Hz1.out.2.2
  refine wpList_to rfl (.pointer (some ⟨x2.heap.size, 0, none⟩)) (x2.alloc (.cells (row 64 (yv fun _ => 0#8)).toArray 23)) (xalloc 23 (row 64 (yv fun _ => 0#8)).toArray rfl (zero23 x2)) ?_
  simp only [zp0, zp1, zp2, zp3]
  generalize x2.alloc (.cells (row 64 (yv fun _ => 0#8)).toArray 23) = x4 at A0 A1 AE ⊢
  obtain ⟨z3, ez3⟩ : ∃ b, b = x2.heap.size := ⟨_, rfl⟩
  replace AB : Hid (w.heap.size ≤ z3) := by rw [ez3]; exact AB.out
  rw [← ez3] at A0 D0 ⊢
  clear ez3
  have Hz3 := A0
  clear A0
  replace Hz1 := A1
  clear A1
  replace hE := AE
  clear AE
  have ABz3 := AB
  clear AB
  have Dz3_0 := D0
  clear D0
  go_upto_region 2 with (fail)
  refine wp_region_lit ?_
  refine xm [some (.int .i64 (n : Int)), some (.bool false)] (by kernel_rfl) (by simp [xr, go_sem, hn0]) ?_
  simp only [xw, p0, p1, p2, p3]
  go_upto_region 4 with (fail)
  refine wp_region_lit ?_
  refine xm [some (.slice (some a) 512 k), some (.int .i64 512), some (.bool false)] (by kernel_rfl) (by simp [xr, go_sem]) ?_
  simp only [xw, p0, p1, p2, p3]
  go_upto_region 6 with (fail)
  refine wp_region_lit ?_
  refine xm [some (.int .i64 0)] (by kernel_rfl) (by simp [xr, go_sem]) ?_
  simp only [xw, p0, p1, p2, p3]
  go_wp2
  go_loopw [7] (fun t X => ∃ i : Nat, i ≤ 64 ∧ t = .int .i64 (i : Int) ∧ RowAt z3 64 (yv (reP T n i)) X ∧ RowAt z1 64 (yv fun _ => 0#8) X ∧ Ext w X) (fun t _ => 64 - (intOf t).toNat)
  case atStart => exact ⟨0, by omega, rfl, Hz3.out, Hz1.out, hE.out⟩
  case round =>
    obtain ⟨i, hi5, rfl, r6, r4, rE⟩ := hrel
    clear Hz3 Hz1 hE
    replace r6 := hideit r6
    replace r4 := hideit r4
    replace rE := hideit rE
    by_cases hi2 : (i : Int) < 64
    · have hi := hideit hi2
      have hin : Hid (i < 64) := by show i < 64; omega
      have ek : IntKind.i64.wrap ((i : Int) + 1) = ((i + 1 : Nat) : Int) := by rw [IntKind.wrap_i64]; omega
      have hge : Hid (¬ 64 ≤ (i : Int)) := by show ¬ 64 ≤ (i : Int); omega
      have hmod : Hid ((n : Int).tmod (8 : Int) = ((n % 8 : Nat) : Int)) := by show (n : Int).tmod (8 : Int) = _; rw [Int.tmod_eq_emod_of_nonneg (by omega)]; simp
      clear hi2 hi5
      obtain ⟨m, hm⟩ : ∃ m : Nat, m = n % 8 * 64 + i := ⟨_, rfl⟩
      have hmul : Hid (IntKind.i64.wrap (64 * ((n : Int) % 8)) = ((64 * (n % 8) : Nat) : Int)) := by show IntKind.i64.wrap (64 * ((n : Int) % 8)) = _; rw [IntKind.wrap_i64]; omega
      have hadd : Hid (IntKind.i64.wrap (64 * ((n : Int) % 8) + (i : Int)) = (m : Int)) := by have := hin.out; show IntKind.i64.wrap (64 * ((n : Int) % 8) + (i : Int)) = _; rw [IntKind.wrap_i64]; omega
      have hmn : m < 512 := by have := hin.out; omega
      have hml : Hid (¬ (512 : Int) ≤ (m : Int)) := by show ¬ (512 : Int) ≤ (m : Int); omega
      have hel : Hid (wr.cell? (a.add m) = some (.int .u8 ((T m).toNat : Int))) := (LieAt.carry hV.out rE.out).1 m hmn
      replace hm := hideit hm
      go_upto_region 7 with (fail)
      refine wp_region_lit ?_
      refine xm [some (.int .i64 (i : Int)), some (.bool true)] (by kernel_rfl) (by simp [xr, go_sem, hi.out]) ?_
      simp only [xw, p0, p1, p2, p3]
      go_upto_region 9 with (fail)
      refine wp_region_lit ?_
      refine xm [some (.int .i64 (i : Int)), some (.slice (some a) 512 k), some (.int .i64 (n : Int)), some (.int .i64 ((n % 8 : Nat) : Int)), some (.int .i64 ((64 * (n % 8) : Nat) : Int)), some (.int .i64 (i : Int)), some (.int .i64 (m : Int)), some (.pointer (some (a.add m))), some (.int .u8 ((T m).toNat : Int)), some (.pointer (some ⟨z3, i, none⟩))] (by kernel_rfl) (by simp [xr, go_sem, hmod.out, hmul.out, hadd.out, hml.out, hel.out, hge.out, addr0]) ?_
      simp only [xw, p0, p1, p2, p3]
      have M0 : wr.cell? ⟨z3, i, none⟩ = some (yv (reP T n i) i) := r6.out.1 i hin.out
      have M1 : wr.frozen? ⟨z3, i, none⟩ = false := r6.out.2.1 i hin.out
      have N0 := hideit ((r6.out.set i (.int .u8 ((T m).toNat : Int))).congr (g' := yv (reP T n (i + 1))) (re_next T n i m hm.out))
      have NE := hideit (rE.out.setCell (p := ⟨z3, i, none⟩) (ABz3.out) (.int .u8 ((T m).toNat : Int)))
      have N4 := hideit (r4.out.other ⟨z3, i, none⟩ (.int .u8 ((T m).toNat : Int)) (Ne.symm (Dz3_0.out)))
      refine xst rfl (wr.setCell ⟨z3, i, none⟩ (.int .u8 ((T m).toNat : Int))) (by simp [go_sem, M0, M1]) ?_
      simp only [Act.put]
      generalize wr.setCell ⟨z3, i, none⟩ (.int .u8 ((T m).toNat : Int)) = w9 at N0 NE N4 ⊢
      clear M0 M1
      go_upto_region 8 with (fail)
      refine wp_region_lit ?_
      refine xm [some (.int .i64 (i : Int)), some (.int .i64 ((i + 1 : Nat) : Int)), some (.int .i64 ((i + 1 : Nat) : Int))] (by kernel_rfl) (by simp [xr, go_sem, ek]) ?_
      simp only [xw, p0, p1, p2, p3]
      go_wp2
      go_round
      case rel => exact ⟨i + 1, by have := hin.out; omega, rfl, N0.out, N4.out, NE.out⟩
      case measure => have := hin.out; simp [intOf]; omega
    · have hi := hideit hi2
      have r9 := hideit (r6.out.congr (g' := yv (recF T n)) fun j hj => by unfold yv reP; rw [if_pos (by omega)])
      have hge : Hid (64 ≤ (i : Int)) := by show 64 ≤ (i : Int); omega
      clear hi2 hi5 r6
      go_upto_region 7 with (fail)
      refine wp_region_lit ?_
      refine xm [some (.int .i64 (i : Int)), some (.bool false)] (by kernel_rfl) (by simp [xr, go_sem, hge.out]) ?_
      simp only [xw, p0, p1, p2, p3]
      go_upto_region 10 with (fail)
      refine wp_region_lit ?_
      refine wpList_run rfl (.agg (row 64 (yv (recF T n))).toArray) (xload 23 (.tmp 6) rfl z3 0 64 _ rfl r9.out.range Tryd.underlying23 rfl inf23) ?_
      simp only [zp0, zp1, zp2, zp3]
      have N0 := hideit (r4.out.cells (g' := yv (recF T n)))
      have N1 := hideit (r9.out.cellsOther (Dz3_0.out) (row 64 (yv (recF T n))) 0)
      have NE := hideit (below_setCells z1 (ABz1.out) (row 64 (yv (recF T n))) 0 _ rE.out)
      refine xst rfl (wr.setCells z1 0 (row 64 (yv (recF T n)))) (xstore 23 (.tmp 4) (.tmp 29) rfl z1 64 _ (yv (recF T n)) rfl rfl r4.out inf23 (fun j _ => rfl)) ?_
      simp only [Act.put]
      generalize wr.setCells z1 0 (row 64 (yv (recF T n))) = x5 at N0 N1 NE ⊢
      replace r4 := N0
      replace r9 := N1
      replace rE := NE
      clear N0 N1 NE
      refine xm [some (.int .i64 0)] (by kernel_rfl) (by simp [xr, go_sem]) ?_
      simp only [xw, p0, p1, p2, p3]
      go_wp2
      refine bodyPost_ret (ret_row2 rfl rfl r4.out Tryd.underlying23 rfl inf23) rfl ?_
      exact ⟨rfl, rE.out⟩
theorem tgE_neg {l : Nat} {n : Int} (h : n < 0) : tgE l n = 1 := by unfold tgE; rw [if_pos h]
theorem tgE_bad {l : Nat} {n : Int} (h : ¬ n < 0) (h2 : ¬ l = 512) : tgE l n = 101 := by unfold tgE; rw [if_neg h, if_neg h2]
theorem tgE_good {l : Nat} {n : Int} (h : ¬ n < 0) (h2 : l = 512) : tgE l n = 0 := by unfold tgE; rw [if_neg h, if_pos h2]
theorem re_zero (T : Nat → BitVec 8) {l : Nat} {n : Int} (h : ¬ tgE l n = 0) : reF T l n = fun _ => 0#8 := by
  funext j; unfold reF; rw [if_neg h]
theorem re_some (T : Nat → BitVec 8) (n : Nat) : reF T 512 (n : Int) = recF T n := by
  funext j; unfold reF; rw [if_pos (tgE_good (by omega) rfl), Int.toNat_natCast]
theorem rrec_any (v : Value) (l : Nat) (T : Nat → BitVec 8) (n : Int) (w : World) (hV : BV v l T w) : Calls Tryd.prog 10 #[v, .int .i64 n] w fun e w' => e = .returned (.tuple #[.agg (row 64 (yv (reF T l n))).toArray, .int .i64 (tgE l n)]) ∧ Ext w w' := by
  obtain ⟨o, k, rfl⟩ := hV.form
  by_cases hn : n < 0
  · rw [re_zero T (by rw [tgE_neg hn]; decide), tgE_neg hn]
    exact rrec_neg o l k n w hn
  · by_cases hl : l = 512
    · subst hl
      obtain ⟨m, rfl⟩ : ∃ m : Nat, n = (m : Int) := ⟨n.toNat, by omega⟩
      rw [re_some, tgE_good hn rfl]
      rcases hV with ⟨_, h0⟩ | ⟨a, c, h1, h3, h4⟩
      · omega
      · injection h1 with h1 _ h5
        subst h1 h5
        exact rrec_ok a k m T w h4
    · rw [re_zero T (by rw [tgE_bad hn hl]; decide), tgE_bad hn hl]
      exact rrec_bad o l k n w hn (by omega)
theorem rec_any (v : Value) (l : Nat) (T : Nat → BitVec 8) (n : Int) (w : World) (hV : BV v l T w) : Calls Tryd.prog 9 #[v, .int .i64 n] w fun e w' => e = .returned (.tuple #[.agg (row 64 (yv (reF T l n))).toArray, .int .i64 (tgE l n)]) ∧ Ext w w' := by
  obtain ⟨o, k, rfl⟩ := hV.form
  by_cases hg : tgE l n = 0
  · obtain ⟨rfl, h2⟩ := tgE_ok hg
    obtain ⟨m, rfl⟩ : ∃ m : Nat, n = (m : Int) := ⟨n.toNat, by omega⟩
    rw [re_some, hg]
    rcases hV with ⟨_, h0⟩ | ⟨a, c, h1, h3, h4⟩
    · omega
    · injection h1 with h1 _ h5
      subst h1 h5
      exact rec_ok a k T m w h4 h3
  · rw [re_zero T hg]
    exact rec_no o l k n w hg
def wiL (l : Nat) (n : Int) : Nat := if tgE l n = 0 then 512 else 0
theorem with_any (v : Value) (l : Nat) (T R : Nat → BitVec 8) (n : Int) (w : World) (hV : BV v l T w) : Calls Tryd.prog 7 #[v, .int .i64 n, .agg (row 64 (yv R)).toArray] w fun e w' => ∃ u, e = .returned (.tuple #[u, .int .i64 (tgE l n)]) ∧ BV u (wiL l n) (wiF T n.toNat R) w' ∧ Ext w w' := by
  obtain ⟨o, k, rfl⟩ := hV.form
  by_cases hg : tgE l n = 0
  · obtain ⟨rfl, h2⟩ := tgE_ok hg
    obtain ⟨m, rfl⟩ : ∃ m : Nat, n = (m : Int) := ⟨n.toNat, by omega⟩
    have e1 : wiL 512 (m : Int) = 512 := by unfold wiL; rw [if_pos hg]
    rw [hg, e1, Int.toNat_natCast]
    rcases hV with ⟨_, h0⟩ | ⟨a, c, h1, h3, h4⟩
    · omega
    · injection h1 with h1 _ h5
      subst h1 h5
      refine (with_ok a k T R m w h4 h3).mono ?_
      rintro e w' ⟨b, c, rfl, hc, hR, hX⟩
      exact ⟨_, rfl, .inr ⟨⟨b, 0, none⟩, c, rfl, hc, RowAt.lie hR 512 (Nat.le_refl _)⟩, hX⟩
  · refine (with_no o l k n R w hg).mono ?_
    rintro e w' ⟨rfl, hX⟩
    have e1 : wiL l n = 0 := by unfold wiL; rw [if_neg hg]
    exact ⟨_, rfl, .inl ⟨rfl, e1⟩, hX⟩
end Go.Proofs.YtgjabfjkokpkiaaDoor
namespace Go.Proofs.YtgjabfjkokpkiaaDoor
open Go.RowKit Go.BigFrame
set_option linter.unusedVariables false
set_option maxRecDepth 20000
def wiP (T : Nat → BitVec 8) (n : Nat) (R : Nat → BitVec 8) (i j : Nat) : BitVec 8 := if n % 8 * 64 ≤ j ∧ j < n % 8 * 64 + i then R (j - n % 8 * 64) else T j
theorem wi_next (T : Nat → BitVec 8) (n : Nat) (R : Nat → BitVec 8) (i m : Nat) (hm : m = n % 8 * 64 + i) (j : Nat) (hj : j < 512) : (if j = m then Value.int .u8 ((R i).toNat : Int) else yv (wiP T n R i) j) = yv (wiP T n R (i + 1)) j := by
  subst hm
  unfold yv wiP
  by_cases e : j = n % 8 * 64 + i
  · rw [if_pos e, if_pos (by omega), show j - n % 8 * 64 = i by omega]
  · rw [if_neg e]
    by_cases e2 : n % 8 * 64 ≤ j ∧ j < n % 8 * 64 + i
    · rw [if_pos e2, if_pos (by omega)]
    · rw [if_neg e2, if_neg (by omega)]
set_option maxRecDepth 20000 in
set_option maxHeartbeats 4000000 in
theorem rwith_no (o : Option Addr) (l k : Nat) (n : Int) (T R : Nat → BitVec 8) (w : World) (hV : BV (.slice o l k) l T w) (hne : ¬ tgE l n = 0) : Calls Tryd.prog 8 #[.slice o l k, .int .i64 n, .agg (row 64 (yv R)).toArray] w fun e w' => e = .returned (.tuple #[.slice none 0 0, .int .i64 (tgE l n)]) ∧ Ext w w' := by
  have hE := hideit (Ext.refl w)
  go_enter Tryd.func8, Tryd.ntmps8
  go_upto_region 0 with (fail)
  refine wp_region_lit ?_
  have A0 := hideit (RowAt.new w 64 (yv R) 23)
  have XB : Ext w (w.alloc (.cells (row 64 (yv R)).toArray 23)) := (Below.refl _ _).alloc (Nat.le_refl _) _
  have AE := hideit (Ext.trans hE.out (XB))
  have AB := hideit (hE.out.size)
  clear XB
  refine wpList_to rfl (.pointer (some ⟨w.heap.size, 0, none⟩)) (w.alloc (.cells (row 64 (yv R)).toArray 23)) (by simp [go_sem]) ?_
  simp only [zp0, zp1, zp2, zp3]
  generalize w.alloc (.cells (row 64 (yv R)).toArray 23) = x1 at A0 AE ⊢
  obtain ⟨c5, ec5⟩ : ∃ b, b = w.heap.size := ⟨_, rfl⟩
  have ABc5 : Hid (w.heap.size ≤ c5) := by rw [ec5]; exact AB.out
  clear AB
  rw [← ec5] at A0  ⊢
  clear ec5
  have Hc5 := A0
  clear A0
  replace hE := AE
  clear AE
  refine xm [some (.slice none 0 0), some (.int .i64 0)] (by kernel_rfl) (by simp [xr, go_sem]) ?_
  simp only [xw, p0, p1, p2, p3]
  go_upto_region 1 with (fail)
  refine wp_region_lit ?_
  refine xm [some (.slice o l k), some (.int .i64 (n))] (by kernel_rfl) (by simp [xr, go_sem]) ?_
  simp only [xw, p0, p1, p2, p3]
  refine wpList_call rfl (by simp [go_sem]) ((rrec_any (.slice o l k) l T (n) x1 (hV.ext hE.out)).mono ?_)
  rintro e y2 ⟨rfl, hX3⟩
  refine ⟨_, rfl, ?_⟩
  simp only [zp0, zp1, zp2, zp3]
  replace Hc5 := hideit (Hc5.out.carry hX3)
  replace hE := hideit (Ext.trans hE.out (hX3))
  clear hX3
  refine xm [some (.tuple #[.agg (row 64 (yv (reF T l n))).toArray, .int .i64 (tgE l n)]), some (.agg (row 64 (yv (reF T l n))).toArray), some (.int .i64 (tgE l n))] (by kernel_rfl) (by simp [xr, go_sem]) ?_
  simp only [xw, p0, p1, p2, p3]
  have A0 := hideit (RowAt.new y2 64 (yv fun _ => 0#8) 23)
  have A1 := hideit (Hc5.out.alloc (.cells (row 64 (yv fun _ => 0#8)).toArray 23))
  have AE := hideit (Below.alloc hE.out (Below.size hE.out) (.cells (row 64 (yv fun _ => 0#8)).toArray 23))
  have AB := hideit (Below.size hE.out)
  have D0 : Hid (c5 ≠ y2.heap.size) := Nat.ne_of_lt Hc5.out.2.2
  refine wpList_to rfl (.pointer (some ⟨y2.heap.size, 0, none⟩)) (y2.alloc (.cells (row 64 (yv fun _ => 0#8)).toArray 23)) (xalloc 23 (row 64 (yv fun _ => 0#8)).toArray rfl (zero23 y2)) ?_
  simp only [zp0, zp1, zp2, zp3]
  generalize y2.alloc (.cells (row 64 (yv fun _ => 0#8)).toArray 23) = x5 at A0 A1 AE ⊢
  obtain ⟨z4, ez4⟩ : ∃ b, b = y2.heap.size := ⟨_, rfl⟩
  replace AB : Hid (w.heap.size ≤ z4) := by rw [ez4]; exact AB.out
  rw [← ez4] at A0 D0 ⊢
  clear ez4
  have Hz4 := A0
  clear A0
  replace Hc5 := A1
  clear A1
  replace hE := AE
  clear AE
  have ABz4 := AB
  clear AB
  have Dz4_0 := D0
  clear D0
  have N0 := hideit (Hz4.out.cells (g' := yv (reF T l n)))
  have N1 := hideit (Hc5.out.cellsOther (Ne.symm (Dz4_0.out)) (row 64 (yv (reF T l n))) 0)
  have NE := hideit (below_setCells z4 (ABz4.out) (row 64 (yv (reF T l n))) 0 _ hE.out)
  refine xst rfl (x5.setCells z4 0 (row 64 (yv (reF T l n)))) (xstore 23 (.tmp 8) (.tmp 16) rfl z4 64 _ (yv (reF T l n)) rfl rfl Hz4.out inf23 (fun j _ => rfl)) ?_
  simp only [Act.put]
  generalize x5.setCells z4 0 (row 64 (yv (reF T l n))) = x6 at N0 N1 NE ⊢
  replace Hz4 := N0
  replace Hc5 := N1
  replace hE := NE
  clear N0 N1 NE
  refine xm [some (.int .i64 (tgE l n))] (by kernel_rfl) (by simp [xr, go_sem]) ?_
  simp only [xw, p0, p1, p2, p3]
  go_upto_region 2 with (fail)
  refine wp_region_lit ?_
  refine xm [some (.int .i64 (tgE l n)), some (.bool true)] (by kernel_rfl) (by simp [xr, go_sem, hne]) ?_
  simp only [xw, p0, p1, p2, p3]
  go_upto_region 3 with (fail)
  refine wp_region_lit ?_
  refine xm [some (.int .i64 (tgE l n)), some (.slice none 0 0), some (.int .i64 (tgE l n))] (by kernel_rfl) (by simp [xr, go_sem]) ?_
  simp only [xw, p0, p1, p2, p3]
  go_wp2
  refine bodyPost_ret (res2 rfl _ _ _) rfl ?_
  exact ⟨rfl, hE.out⟩
set_option maxRecDepth 20000 in
set_option maxHeartbeats 4000000 in
theorem rwith_ok (a : Addr) (k n : Nat) (T R : Nat → BitVec 8) (w : World) (hV : BV (.slice (some a) 512 k) 512 T w) : Calls Tryd.prog 8 #[.slice (some a) 512 k, .int .i64 (n : Int), .agg (row 64 (yv R)).toArray] w fun e w' => ∃ b c, e = .returned (.tuple #[.slice (some ⟨b, 0, none⟩) 512 c, .int .i64 0]) ∧ 512 ≤ c ∧ RowAt b 512 (yv (wiF T n R)) w' ∧ Ext w w' := by
  have hrec : ∀ X, Ext w X → Calls Tryd.prog 10 #[.slice (some a) 512 k, .int .i64 (n : Int)] X fun e w' => e = .returned (.tuple #[.agg (row 64 (yv (recF T n))).toArray, .int .i64 0]) ∧ Ext X w' := fun X hX => rrec_ok a k n T X (hV.ext hX).lie
  have hE := hideit (Ext.refl w)
  go_enter Tryd.func8, Tryd.ntmps8
  go_upto_region 0 with (fail)
  refine wp_region_lit ?_
  have A0 := hideit (RowAt.new w 64 (yv R) 23)
  have XB : Ext w (w.alloc (.cells (row 64 (yv R)).toArray 23)) := (Below.refl _ _).alloc (Nat.le_refl _) _
  have AE := hideit (Ext.trans hE.out (XB))
  have AB := hideit (hE.out.size)
  clear XB
  refine wpList_to rfl (.pointer (some ⟨w.heap.size, 0, none⟩)) (w.alloc (.cells (row 64 (yv R)).toArray 23)) (by simp [go_sem]) ?_
  simp only [zp0, zp1, zp2, zp3]
  generalize w.alloc (.cells (row 64 (yv R)).toArray 23) = x1 at A0 AE ⊢
  obtain ⟨c5, ec5⟩ : ∃ b, b = w.heap.size := ⟨_, rfl⟩
  have ABc5 : Hid (w.heap.size ≤ c5) := by rw [ec5]; exact AB.out
  clear AB
  rw [← ec5] at A0  ⊢
  clear ec5
  have Hc5 := A0
  clear A0
  replace hE := AE
  clear AE
  refine xm [some (.slice none 0 0), some (.int .i64 0)] (by kernel_rfl) (by simp [xr, go_sem]) ?_
  simp only [xw, p0, p1, p2, p3]
  go_upto_region 1 with (fail)
  refine wp_region_lit ?_
  refine xm [some (.slice (some a) 512 k), some (.int .i64 (n : Int))] (by kernel_rfl) (by simp [xr, go_sem]) ?_
  simp only [xw, p0, p1, p2, p3]
  refine wpList_call rfl (by simp [go_sem]) ((hrec x1 hE.out).mono ?_)
  rintro e y2 ⟨rfl, hX3⟩
  refine ⟨_, rfl, ?_⟩
  simp only [zp0, zp1, zp2, zp3]
  replace Hc5 := hideit (Hc5.out.carry hX3)
  replace hE := hideit (Ext.trans hE.out (hX3))
  clear hX3
  refine xm [some (.tuple #[.agg (row 64 (yv (recF T n))).toArray, .int .i64 0]), some (.agg (row 64 (yv (recF T n))).toArray), some (.int .i64 0)] (by kernel_rfl) (by simp [xr, go_sem]) ?_
  simp only [xw, p0, p1, p2, p3]
  have A0 := hideit (RowAt.new y2 64 (yv fun _ => 0#8) 23)
  have A1 := hideit (Hc5.out.alloc (.cells (row 64 (yv fun _ => 0#8)).toArray 23))
  have AE := hideit (Below.alloc hE.out (Below.size hE.out) (.cells (row 64 (yv fun _ => 0#8)).toArray 23))
  have AB := hideit (Below.size hE.out)
  have D0 : Hid (c5 ≠ y2.heap.size) := Nat.ne_of_lt Hc5.out.2.2
  refine wpList_to rfl (.pointer (some ⟨y2.heap.size, 0, none⟩)) (y2.alloc (.cells (row 64 (yv fun _ => 0#8)).toArray 23)) (xalloc 23 (row 64 (yv fun _ => 0#8)).toArray rfl (zero23 y2)) ?_
  simp only [zp0, zp1, zp2, zp3]
  generalize y2.alloc (.cells (row 64 (yv fun _ => 0#8)).toArray 23) = x5 at A0 A1 AE ⊢
  obtain ⟨z4, ez4⟩ : ∃ b, b = y2.heap.size := ⟨_, rfl⟩
  replace AB : Hid (w.heap.size ≤ z4) := by rw [ez4]; exact AB.out
  rw [← ez4] at A0 D0 ⊢
  clear ez4
  have Hz4 := A0
  clear A0
  replace Hc5 := A1
  clear A1
  replace hE := AE
  clear AE
  have ABz4 := AB
  clear AB
  have Dz4_0 := D0
  clear D0
  have N0 := hideit (Hz4.out.cells (g' := yv (recF T n)))
  have N1 := hideit (Hc5.out.cellsOther (Ne.symm (Dz4_0.out)) (row 64 (yv (recF T n))) 0)
  have NE := hideit (below_setCells z4 (ABz4.out) (row 64 (yv (recF T n))) 0 _ hE.out)
  refine xst rfl (x5.setCells z4 0 (row 64 (yv (recF T n)))) (xstore 23 (.tmp 8) (.tmp 16) rfl z4 64 _ (yv (recF T n)) rfl rfl Hz4.out inf23 (fun j _ => rfl)) ?_
  simp only [Act.put]
  generalize x5.setCells z4 0 (row 64 (yv (recF T n))) = x6 at N0 N1 NE ⊢
  replace Hz4 := N0
  replace Hc5 := N1
  replace hE := NE
  clear N0 N1 NE
  refine xm [some (.int .i64 0)] (by kernel_rfl) (by simp [xr, go_sem]) ?_
  simp only [xw, p0, p1, p2, p3]
  go_upto_region 2 with (fail)
  refine wp_region_lit ?_
  refine xm [some (.int .i64 0), some (.bool false)] (by kernel_rfl) (by simp [xr, go_sem]) ?_
  simp only [xw, p0, p1, p2, p3]
  go_upto_region 4 with (fail)
  refine wp_region_lit ?_
  obtain ⟨W0, hW0⟩ : ∃ X, X = x6 := ⟨_, rfl⟩
  have hG := hideit (GB.empty W0 (Ext.refl W0) T)
  have hEa := hideit (Below.alloc hE.out (Below.size hE.out) (.cells #[] 5))
  have XB : Ext x6 (x6.alloc (.cells #[] 5)) := (Below.refl _ _).alloc (Nat.le_refl _) _
  have hVa := hideit (hV.ext (Ext.trans hE.out XB))
  rw [hW0] at hG
  refine wpList_to rfl (.slice (some ⟨x6.heap.size, 0, none⟩) 0 0) (x6.alloc (.cells #[] 5)) (by simp [go_sem]) ?_
  simp only [zp0, zp1, zp2, zp3]
  refine xm [some (.slice (some a) 512 k)] (by kernel_rfl) (by simp [xr, go_sem]) ?_
  simp only [xw, p0, p1, p2, p3]
  refine wpList_gb rfl (.tmp 21) (.tmp 22) rfl rfl hG.out (.slice (some a) 512 k) 512 T rfl hVa.out (by decide) ?_
  intro v9 X9 hG9
  simp only [zp0, zp1, zp2, zp3]
  obtain ⟨hO9, hX9⟩ := hG9
  obtain ⟨b9, k9, hv9, hb9, hk9, _, hR9⟩ := hO9.lies (by decide)
  subst hv9
  have D9c5 : Hid (c5 ≠ b9) := by have := Hc5.out.2.2; show _ ≠ _; omega
  have D9z4 : Hid (z4 ≠ b9) := by have := Hz4.out.2.2; show _ ≠ _; omega
  have AB9 : Hid (w.heap.size ≤ b9) := by have := Below.size hE.out; show _ ≤ _; omega
  replace hR9 := hideit (hR9.congr (g' := yv (wiP T n R 0)) fun j hj => by unfold yv wiP catF; rw [if_neg (by omega), if_neg (by omega), Nat.sub_zero])
  replace Hc5 := hideit (Hc5.out.carry hX9)
  replace Hz4 := hideit (Hz4.out.carry hX9)
  replace hE := hideit (Ext.trans hE.out (hX9))
  clear hO9 hX9 hG hEa hVa hW0 hb9
  refine xm [some (.slice (some ⟨b9, 0, none⟩) 512 k9)] (by kernel_rfl) (by simp [xr, go_sem]) ?_
  simp only [xw, p0, p1, p2, p3]
  go_upto_region 5 with (fail)
  refine wp_region_lit ?_
  refine xm [some (.int .i64 0)] (by kernel_rfl) (by simp [xr, go_sem]) ?_
  simp only [xw, p0, p1, p2, p3]
  go_wp2
  go_loopw [11] (fun t X => ∃ i : Nat, i ≤ 64 ∧ t = .int .i64 (i : Int) ∧ RowAt c5 64 (yv R) X ∧ RowAt b9 512 (yv (wiP T n R i)) X ∧ Ext w X) (fun t _ => 64 - (intOf t).toNat)
  case atStart => exact ⟨0, by omega, rfl, Hc5.out, hR9.out, hE.out⟩
  case round =>
    obtain ⟨i, hi5, rfl, r5, r9, rE⟩ := hrel
    clear Hc5 hR9 hE
    replace r5 := hideit r5
    replace r9 := hideit r9
    replace rE := hideit rE
    by_cases hi2 : (i : Int) < 64
    · have hi := hideit hi2
      have hin : Hid (i < 64) := by show i < 64; omega
      have ek : IntKind.i64.wrap ((i : Int) + 1) = ((i + 1 : Nat) : Int) := by rw [IntKind.wrap_i64]; omega
      have hge : Hid (¬ 64 ≤ (i : Int)) := by show ¬ 64 ≤ (i : Int); omega
      have hmod : Hid ((n : Int).tmod (8 : Int) = ((n % 8 : Nat) : Int)) := by show (n : Int).tmod (8 : Int) = _; rw [Int.tmod_eq_emod_of_nonneg (by omega)]; simp
      clear hi2 hi5
      obtain ⟨m, hm⟩ : ∃ m : Nat, m = n % 8 * 64 + i := ⟨_, rfl⟩
      have hmul : Hid (IntKind.i64.wrap (64 * ((n : Int) % 8)) = ((64 * (n % 8) : Nat) : Int)) := by show IntKind.i64.wrap (64 * ((n : Int) % 8)) = _; rw [IntKind.wrap_i64]; omega
      have hadd : Hid (IntKind.i64.wrap (64 * ((n : Int) % 8) + (i : Int)) = (m : Int)) := by have := hin.out; show IntKind.i64.wrap (64 * ((n : Int) % 8) + (i : Int)) = _; rw [IntKind.wrap_i64]; omega
      have hmn : m < 512 := by have := hin.out; omega
      have hml : Hid (¬ (512 : Int) ≤ (m : Int)) := by show ¬ (512 : Int) ≤ (m : Int); omega
      have hel : Hid (wr.cell? ⟨c5, i, none⟩ = some (.int .u8 ((R i).toNat : Int))) := r5.out.1 i hin.out
      replace hm := hideit hm
      go_upto_region 6 with (fail)
      refine wp_region_lit ?_
      refine xm [some (.int .i64 (i : Int)), some (.bool true)] (by kernel_rfl) (by simp [xr, go_sem, hi.out]) ?_
      simp only [xw, p0, p1, p2, p3]
      go_upto_region 8 with (fail)
      refine wp_region_lit ?_
      refine xm [some (.slice (some ⟨b9, 0, none⟩) 512 k9), some (.int .i64 (n : Int)), some (.int .i64 ((n % 8 : Nat) : Int)), some (.int .i64 ((64 * (n % 8) : Nat) : Int)), some (.int .i64 (i : Int)), some (.int .i64 (m : Int)), some (.int .i64 (i : Int)), some (.pointer (some ⟨c5, i, none⟩)), some (.int .u8 ((R i).toNat : Int)), some (.pointer (some ⟨b9, m, none⟩))] (by kernel_rfl) (by simp [xr, go_sem, hmod.out, hmul.out, hadd.out, hge.out, addr0, hel.out, hml.out]) ?_
      simp only [xw, p0, p1, p2, p3]
      have M0 : wr.cell? ⟨b9, m, none⟩ = some (yv (wiP T n R i) m) := r9.out.1 m hmn
      have M1 : wr.frozen? ⟨b9, m, none⟩ = false := r9.out.2.1 m hmn
      have N0 := hideit ((r9.out.set m (.int .u8 ((R i).toNat : Int))).congr (g' := yv (wiP T n R (i + 1))) (wi_next T n R i m hm.out))
      have NE := hideit (rE.out.setCell (p := ⟨b9, m, none⟩) AB9.out (.int .u8 ((R i).toNat : Int)))
      have N5 := hideit (r5.out.other ⟨b9, m, none⟩ (.int .u8 ((R i).toNat : Int)) (Ne.symm D9c5.out))
      refine xst rfl (wr.setCell ⟨b9, m, none⟩ (.int .u8 ((R i).toNat : Int))) (by simp [go_sem, M0, M1]) ?_
      simp only [Act.put]
      generalize wr.setCell ⟨b9, m, none⟩ (.int .u8 ((R i).toNat : Int)) = w9 at N0 NE N5 ⊢
      clear M0 M1
      go_upto_region 7 with (fail)
      refine wp_region_lit ?_
      refine xm [some (.int .i64 (i : Int)), some (.int .i64 ((i + 1 : Nat) : Int)), some (.int .i64 ((i + 1 : Nat) : Int))] (by kernel_rfl) (by simp [xr, go_sem, ek]) ?_
      simp only [xw, p0, p1, p2, p3]
      go_wp2
      go_round
      case rel => exact ⟨i + 1, by have := hin.out; omega, rfl, N5.out, N0.out, NE.out⟩
      case measure => have := hin.out; simp [intOf]; omega
    · have hi := hideit hi2
      replace r9 := hideit (r9.out.congr (g' := yv (wiF T n R)) fun j hj => by
        have e : i = 64 := by omega
        subst e
        rfl)
      have hge : Hid (64 ≤ (i : Int)) := by show 64 ≤ (i : Int); omega
      clear hi2 hi5 r5
      go_upto_region 6 with (fail)
      refine wp_region_lit ?_
      refine xm [some (.int .i64 (i : Int)), some (.bool false)] (by kernel_rfl) (by simp [xr, go_sem, hge.out]) ?_
      simp only [xw, p0, p1, p2, p3]
      go_upto_region 9 with (fail)
      refine wp_region_lit ?_
      refine xm [some (.slice (some ⟨b9, 0, none⟩) 512 k9), some (.slice (some ⟨b9, 0, none⟩) 512 k9), some (.int .i64 0)] (by kernel_rfl) (by simp [xr, go_sem]) ?_
      simp only [xw, p0, p1, p2, p3]
      go_wp2
      refine bodyPost_ret (res2 rfl _ _ _) rfl ?_
      exact ⟨b9, k9, rfl, hk9, r9.out, rE.out⟩
theorem rwith_any (v : Value) (l : Nat) (T R : Nat → BitVec 8) (n : Int) (w : World) (hV : BV v l T w) : Calls Tryd.prog 8 #[v, .int .i64 n, .agg (row 64 (yv R)).toArray] w fun e w' => ∃ u, e = .returned (.tuple #[u, .int .i64 (tgE l n)]) ∧ BV u (wiL l n) (wiF T n.toNat R) w' ∧ Ext w w' := by
  obtain ⟨o, k, rfl⟩ := hV.form
  by_cases hg : tgE l n = 0
  · obtain ⟨rfl, h2⟩ := tgE_ok hg
    obtain ⟨m, rfl⟩ : ∃ m : Nat, n = (m : Int) := ⟨n.toNat, by omega⟩
    have e1 : wiL 512 (m : Int) = 512 := by unfold wiL; rw [if_pos hg]
    rw [hg, e1, Int.toNat_natCast]
    have hV0 := hV
    rcases hV with ⟨_, h0⟩ | ⟨a, c, h1, h3, h4⟩
    · omega
    · injection h1 with h1 _ h5
      subst h1 h5
      refine (rwith_ok a k m T R w hV0).mono ?_
      rintro e w' ⟨b, c, rfl, hc, hR, hX⟩
      exact ⟨_, rfl, .inr ⟨⟨b, 0, none⟩, c, rfl, hc, RowAt.lie hR 512 (Nat.le_refl _)⟩, hX⟩
  · refine (rwith_no o l k n T R w hV hg).mono ?_
    rintro e w' ⟨rfl, hX⟩
    have e1 : wiL l n = 0 := by unfold wiL; rw [if_neg hg]
    exact ⟨_, rfl, .inl ⟨rfl, e1⟩, hX⟩
end Go.Proofs.YtgjabfjkokpkiaaDoor
