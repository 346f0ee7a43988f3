/-
  Blocks made of some bytes; headers that are the same.
-/
import Derived.Test.YtcipkfalnjgghaaMd11
import Derived.Test.YtcipkfalnjgghaaSEq
import Derived.Test.YtcipkfalnjgghaaMade
namespace Go.Proofs.Ytcipkfalnjgghaa
open Go.RowKit Go.BigFrame Go.Maps
set_option linter.unusedVariables false
set_option maxRecDepth 100000
def G0 : Field := { name := "Generation", type := 32, offset := 0, embedded := false, tag := "", pkgPath := "", byteOffset := 0 }
def G1 : Field := { name := "Sectors", type := 3, offset := 1, embedded := false, tag := "", pkgPath := "", byteOffset := 8 }
def G2 : Field := { name := "Slots", type := 3, offset := 2, embedded := false, tag := "", pkgPath := "", byteOffset := 16 }
def G3 : Field := { name := "Journal", type := 3, offset := 3, embedded := false, tag := "", pkgPath := "", byteOffset := 24 }
def G4 : Field := { name := "Segment", type := 3, offset := 4, embedded := false, tag := "", pkgPath := "", byteOffset := 32 }
def G5 : Field := { name := "Params", type := 34, offset := 5, embedded := false, tag := "", pkgPath := "", byteOffset := 40 }
def G6 : Field := { name := "Name", type := 35, offset := 8, embedded := false, tag := "", pkgPath := "", byteOffset := 64 }
def K0 : Field := { name := "Time", type := 3, offset := 0, embedded := false, tag := "", pkgPath := "", byteOffset := 0 }
def K1 : Field := { name := "Memory", type := 3, offset := 1, embedded := false, tag := "", pkgPath := "", byteOffset := 8 }
def K2 : Field := { name := "Lanes", type := 3, offset := 2, embedded := false, tag := "", pkgPath := "", byteOffset := 16 }
theorem equalP (h : Hd) (w : World) : (Op.equalIn 9999 34 (.agg (row 3 fun j => hdv h (5 + j)).toArray) (.agg (row 3 fun j => hdv h (5 + j)).toArray)).run Try.prog w = (.ok true w : Result Bool) := by
  rw [run_equalIn_struct w 9998 34 _ _ (by kernel_rfl) (by kernel_rfl)]
  have hf : (Try.prog.fieldsOf 34).toList = [K0, K1, K2] := by kernel_rfl
  rw [hf]
  have r := eqFields_cons (P := Try.prog) 9998 (row 3 fun j => hdv h (5 + j)).toArray (row 3 fun j => hdv h (5 + j)).toArray K0 _ (.int .i64 h.ti) (.int .i64 h.ti) _ _ w (by decide) (part_one (Try.isAgg3 w) (by decide)) (part_one (Try.isAgg3 w) (by decide)) (run_equalIn_int w 9997 3 .i64 .i64 _ _ Try.underlying3)
    (eqFields_cons 9998 _ _ K1 _ (.int .i64 h.me) (.int .i64 h.me) _ _ w (by decide) (part_one (Try.isAgg3 w) (by decide)) (part_one (Try.isAgg3 w) (by decide)) (run_equalIn_int w 9997 3 .i64 .i64 _ _ Try.underlying3)
    (eqFields_cons 9998 _ _ K2 _ (.int .i64 h.la) (.int .i64 h.la) _ _ w (by decide) (part_one (Try.isAgg3 w) (by decide)) (part_one (Try.isAgg3 w) (by decide)) (run_equalIn_int w 9997 3 .i64 .i64 _ _ Try.underlying3) (eqFields_nil _ _ _ w)))
  rw [r]
  simp
theorem hdv_nm (h : Hd) : (row 16 fun j => hdv h (8 + j)) = row 16 fun j => .int .u8 ((h.nm j).toNat : Int) := row_ext fun j _ => by
  unfold hdv
  rw [if_neg (by omega), if_neg (by omega), if_neg (by omega), if_neg (by omega), if_neg (by omega), if_neg (by omega), if_neg (by omega), if_neg (by omega), show 8 + j - 8 = j by omega]
theorem equalH (h : Hd) (w : World) : (Op.equalIn 10000 37 (.agg (row 24 (hdv h)).toArray) (.agg (row 24 (hdv h)).toArray)).run Try.prog w = (.ok true w : Result Bool) := by
  rw [run_equalIn_struct w 9999 37 _ _ (by kernel_rfl) (by kernel_rfl)]
  have hf : (Try.prog.fieldsOf 37).toList = [G0, G1, G2, G3, G4, G5, G6] := by kernel_rfl
  rw [hf]
  have e6 := equalIn_row (P := Try.prog) 9997 35 5 16 .u8 Try.underlying35 Try.underlying5 Try.sizeOf5 (fun j => ((h.nm j).toNat : Int)) (fun j => ((h.nm j).toNat : Int)) w
  rw [← hdv_nm h] at e6
  have r := (eqFields_cons (P := Try.prog) 9999 (row 24 (hdv h)).toArray (row 24 (hdv h)).toArray G0 _ (.int .u64 (h.g.toNat : Int)) (.int .u64 (h.g.toNat : Int)) _ _ w (by decide) (part_one (Try.isAgg32 w) (by decide)) (part_one (Try.isAgg32 w) (by decide)) (run_equalIn_int w 9998 32 .u64 .u64 _ _ Try.underlying32)
    (eqFields_cons (P := Try.prog) 9999 (row 24 (hdv h)).toArray (row 24 (hdv h)).toArray G1 _ (.int .i64 h.se) (.int .i64 h.se) _ _ w (by decide) (part_one (Try.isAgg3 w) (by decide)) (part_one (Try.isAgg3 w) (by decide)) (run_equalIn_int w 9998 3 .i64 .i64 _ _ Try.underlying3)
    (eqFields_cons (P := Try.prog) 9999 (row 24 (hdv h)).toArray (row 24 (hdv h)).toArray G2 _ (.int .i64 h.sl) (.int .i64 h.sl) _ _ w (by decide) (part_one (Try.isAgg3 w) (by decide)) (part_one (Try.isAgg3 w) (by decide)) (run_equalIn_int w 9998 3 .i64 .i64 _ _ Try.underlying3)
    (eqFields_cons (P := Try.prog) 9999 (row 24 (hdv h)).toArray (row 24 (hdv h)).toArray G3 _ (.int .i64 h.jo) (.int .i64 h.jo) _ _ w (by decide) (part_one (Try.isAgg3 w) (by decide)) (part_one (Try.isAgg3 w) (by decide)) (run_equalIn_int w 9998 3 .i64 .i64 _ _ Try.underlying3)
    (eqFields_cons (P := Try.prog) 9999 (row 24 (hdv h)).toArray (row 24 (hdv h)).toArray G4 _ (.int .i64 h.sg) (.int .i64 h.sg) _ _ w (by decide) (part_one (Try.isAgg3 w) (by decide)) (part_one (Try.isAgg3 w) (by decide)) (run_equalIn_int w 9998 3 .i64 .i64 _ _ Try.underlying3)
    (eqFields_cons 9999 _ _ G5 _ _ _ _ _ w (by decide) (part_arr (Try.isAgg34 w) (Try.sizeOf34 w) (by decide)) (part_arr (Try.isAgg34 w) (Try.sizeOf34 w) (by decide)) (equalP h w)
    (eqFields_cons 9999 _ _ G6 _ _ _ _ _ w (by decide) (part_arr (Try.isAgg35 w) (Try.sizeOf35 w) (by decide)) (part_arr (Try.isAgg35 w) (Try.sizeOf35 w) (by decide)) e6 (eqFields_nil _ _ _ w))))))))
  rw [r]
  simp
theorem eqlH (h : Hd) (w : World) : (binOp .eql 37 (.agg (row 24 (hdv h)).toArray) (.agg (row 24 (hdv h)).toArray)).run Try.prog w = .ok (.bool true) w := by
  rw [run_eql_struct, equalH]; rfl
theorem neqH (h : Hd) (w : World) : (binOp .neq 37 (.agg (row 24 (hdv h)).toArray) (.agg (row 24 (hdv h)).toArray)).run Try.prog w = .ok (.bool false) w := by
  rw [run_neq_struct, equalH]; rfl
/-- some bytes, again and again, 512 in all -/
def blkF (l : Nat) (f : Nat → BitVec 8) (j : Nat) : BitVec 8 := if l = 0 then 0#8 else f (j % l)
def blkP (l : Nat) (f : Nat → BitVec 8) (i j : Nat) : BitVec 8 := if j < i then blkF l f j else 0#8
theorem blk_next (l : Nat) (f : Nat → BitVec 8) (i m : Nat) (hm : m = i % l) (hl : 0 < l) (j : Nat) (hj : j < 512) : (if j = i then Value.int .u8 ((f m).toNat : Int) else yv (blkP l f i) j) = yv (blkP l f (i + 1)) j := by
  subst hm
  unfold yv blkP
  by_cases e : j = i
  · subst e
    rw [if_pos rfl, if_pos (by omega)]
    unfold blkF
    rw [if_neg (by omega)]
  · rw [if_neg e]
    by_cases e2 : j < i
    · rw [if_pos e2, if_pos (by omega)]
    · rw [if_neg e2, if_neg (by omega)]
theorem own_row512 {W X : World} {g : Nat → Value} (h : OwnB W.heap.size 5 (.slice (some ⟨W.heap.size, 0, none⟩) 512 512) 512 g X) : RowAt W.heap.size 512 g X := by
  obtain ⟨b, cap, h1, _, _, _, hR⟩ := h.lies (by decide)
  injection h1 with h1
  injection h1 with h1
  injection h1 with h1
  rw [h1]
  exact hR
set_option maxRecDepth 20000 in
set_option maxHeartbeats 4000000 in
theorem block_any (o : Option Addr) (l k : Nat) (f : Nat → BitVec 8) (w : World) (hV : BV (.slice o l k) l f w) (hl63 : l ≤ 140737488355328) : Calls Try.prog 21 #[.slice o l k] w fun e w' => ∃ z, e = .returned (.slice (some ⟨z, 0, none⟩) 512 512) ∧ w.heap.size ≤ z ∧ RowAt z 512 (yv (blkF l f)) w' ∧ Ext w w' := by
  have hno : Hid (∀ z, w.heap.size ≤ z → ∀ a, o = some a → a.block ≠ z) := fun z hz a e => by
    rcases hV with ⟨h, _⟩ | ⟨a', c, h, _, h3⟩
    · injection h with h; rw [e] at h; cases h
    · injection h with h; rw [e] at h; injection h with h; have := h3.2; rw [h]; omega
  replace hV := hideit hV
  have hE := hideit (Ext.refl w)
  go_enter Try.func21, Try.ntmps21
  go_upto_region 1 with (fail)
  refine wp_region_lit ?_
  refine wpList_made w Try.underlying22 (by kernel_rfl) rfl _ _ rfl 512 rfl rfl (by decide) ?_
  intro x1 hO1 hX1
  have Hz := hideit ((own_row512 hO1).congr (g' := yv (blkP l f 0)) fun j hj => by unfold yv blkP; rw [if_neg (by omega)])
  replace hV := hideit (hV.out.ext hX1)
  replace hE := hideit (Ext.trans hE.out hX1)
  simp only [Act.put, List.setIfInBounds_toArray, List.set_cons_zero, List.set_cons_succ]
  clear hO1 hX1
  obtain ⟨z, ez⟩ : ∃ b, b = w.heap.size := ⟨_, rfl⟩
  have ABz : Hid (w.heap.size ≤ z) := by rw [ez]; exact Nat.le_refl _
  rw [← ez] at Hz ⊢
  clear ez
  refine xm [some (.slice (some ⟨z, 0, none⟩) 512 512)] (by kernel_rfl) (by simp [xr, go_sem]) ?_
  simp only [xw, p0, p1, p2, p3]
  go_wp2
  go_loopw [4] (fun t X => ∃ i : Nat, i ≤ 512 ∧ t = .int .i64 (i : Int) ∧ RowAt z 512 (yv (blkP l f i)) X ∧ BV (.slice o l k) l f X ∧ Ext w X) (fun t _ => 512 - (intOf t).toNat)
  case atStart => exact ⟨0, by omega, rfl, Hz.out, hV.out, hE.out⟩
  case round =>
    obtain ⟨i, hi5, rfl, r0, rV, rE⟩ := hrel
    clear Hz hV hE
    replace r0 := hideit r0
    replace rV := hideit rV
    replace rE := hideit rE
    by_cases hi2 : (i : Int) < 512
    · have hi := hideit hi2
      have hin : Hid (i < 512) := by show i < 512; omega
      have ek : IntKind.i64.wrap ((i : Int) + 1) = ((i + 1 : Nat) : Int) := by rw [IntKind.wrap_i64]; omega
      have hge : Hid (¬ 512 ≤ (i : Int)) := by show ¬ 512 ≤ (i : Int); omega
      clear hi2 hi5
      by_cases hl1 : (l : Int) > 0
      · have hl := hideit hl1
        have hl0 : Hid (0 < l) := by show 0 < l; omega
        have hl2 : Hid (¬ l = 0) := by show ¬ l = 0; omega
        clear hl1
        obtain ⟨a, rfl⟩ : ∃ a, o = some a := by
          rcases rV.out with ⟨_, h0⟩ | ⟨a, c, h1, _⟩
          · have := hl0.out; omega
          · injection h1 with h1; exact ⟨a, h1⟩
        have haz : Hid (a.block ≠ z) := hno.out z ABz.out a rfl
        obtain ⟨m, hm⟩ : ∃ m : Nat, m = i % l := ⟨_, rfl⟩
        have hml : Hid (m < l) := by rw [hm]; exact Nat.mod_lt i hl0.out
        have hel : Hid (wr.cell? (a.add m) = some (.int .u8 ((f m).toNat : Int))) := rV.out.lie.1 m hml.out
        have hmod : Hid ((i : Int).tmod (l : Int) = (m : Int)) := by show (i : Int).tmod (l : Int) = _; rw [Int.tmod_eq_emod_of_nonneg (by omega), hm]; simp
        replace hm := hideit hm
        go_upto_region 3 with (fail)
        refine wp_region_lit ?_
        refine xm [some (.int .i64 (i : Int)), some (.bool true), some (.bool true), some (.slice (some a) l k), some (.int .i64 (l : Int)), some (.bool true), some (.bool true)] (by kernel_rfl) (by simp [xr, go_sem, hi.out, hl0.out]) ?_
        simp only [xw, p0, p1, p2, p3]
        go_upto_region 5 with (fail)
        refine wp_region_lit ?_
        refine xm [some (.slice (some ⟨z, 0, none⟩) 512 512), some (.int .i64 (i : Int)), some (.slice (some a) l k), some (.int .i64 (i : Int)), some (.slice (some a) l k), some (.int .i64 (l : Int)), some (.int .i64 (m : Int)), some (.pointer (some (a.add m))), some (.int .u8 ((f m).toNat : Int)), some (.pointer (some ⟨z, i, none⟩))] (by kernel_rfl) (by simp [xr, go_sem, hmod.out, hl2.out, hml.out, hel.out, hge.out, addr0]) ?_
        simp only [xw, p0, p1, p2, p3]
        have M0 : wr.cell? ⟨z, i, none⟩ = some (yv (blkP l f i) i) := r0.out.1 i hin.out
        have M1 : wr.frozen? ⟨z, i, none⟩ = false := r0.out.2.1 i hin.out
        have N0 := hideit ((r0.out.set i (.int .u8 ((f m).toNat : Int))).congr (g' := yv (blkP l f (i + 1))) (blk_next l f i m hm.out hl0.out))
        have NE := hideit (rE.out.setCell (p := ⟨z, i, none⟩) ABz.out (.int .u8 ((f m).toNat : Int)))
        have NV := hideit (rV.out.keep ((Keeps.refl (fun q => q = z) wr).setCell (p := ⟨z, i, none⟩) (.inl rfl) (.int .u8 ((f m).toNat : Int))) (fun a' n c e hz => haz.out (by injection e with e; injection e with e; rw [e]; exact hz)))
        refine xst rfl (wr.setCell ⟨z, i, none⟩ (.int .u8 ((f m).toNat : Int))) (by simp [go_sem, M0, M1]) ?_
        simp only [Act.put]
        generalize wr.setCell ⟨z, i, none⟩ (.int .u8 ((f m).toNat : Int)) = w9 at N0 NE NV ⊢
        clear M0 M1
        go_upto_region 4 with (fail)
        refine wp_region_lit ?_
        refine xm [some (.int .i64 (i : Int)), some (.int .i64 ((i + 1 : Nat) : Int)), some (.int .i64 ((i + 1 : Nat) : Int))] (by kernel_rfl) (by simp [xr, go_sem, ek]) ?_
        simp only [xw, p0, p1, p2, p3]
        go_wp2
        go_round
        case rel => exact ⟨i + 1, by have := hin.out; omega, rfl, N0.out, NV.out, NE.out⟩
        case measure => have := hin.out; simp [intOf]; omega
      · have hl := hideit hl1
        have hl0 : l = 0 := by omega
        have r9 := hideit (r0.out.congr (g' := yv (blkF l f)) fun j hj => by unfold yv blkP blkF; rw [if_pos hl0]; split <;> rfl)
        replace hl0 : Hid (¬ 0 < l) := by show ¬ 0 < l; omega
        clear hl1 r0 rV
        go_upto_region 3 with (fail)
        refine wp_region_lit ?_
        refine xm [some (.int .i64 (i : Int)), some (.bool true), some (.bool true), some (.slice o l k), some (.int .i64 (l : Int)), some (.bool false), some (.bool false)] (by kernel_rfl) (by simp [xr, go_sem, hi.out, hl0.out]) ?_
        simp only [xw, p0, p1, p2, p3]
        go_upto_region 6 with (fail)
        refine wp_region_lit ?_
        refine xm [some (.slice (some ⟨z, 0, none⟩) 512 512), some (.slice (some ⟨z, 0, none⟩) 512 512)] (by kernel_rfl) (by simp [xr, go_sem]) ?_
        simp only [xw, p0, p1, p2, p3]
        go_wp2
        go_ret
        exact ⟨z, rfl, ABz.out, r9.out, rE.out⟩
    · have hi := hideit hi2
      have hi6 : i = 512 := by omega
      have r9 := hideit (r0.out.congr (g' := yv (blkF l f)) fun j hj => by unfold yv blkP; rw [if_pos (by omega)])
      have hge : Hid (512 ≤ (i : Int)) := by show 512 ≤ (i : Int); omega
      clear hi2 hi5 r0 rV hi6
      go_upto_region 3 with (fail)
      refine wp_region_lit ?_
      refine xm [some (.int .i64 (i : Int)), some (.bool false), some (.bool false), none, none, none, some (.bool false)] (by kernel_rfl) (by simp [xr, go_sem, hge.out]) ?_
      simp only [xw, p0, p1, p2, p3]
      go_upto_region 6 with (fail)
      refine wp_region_lit ?_
      refine xm [some (.slice (some ⟨z, 0, none⟩) 512 512), some (.slice (some ⟨z, 0, none⟩) 512 512)] (by kernel_rfl) (by simp [xr, go_sem]) ?_
      simp only [xw, p0, p1, p2, p3]
      go_wp2
      go_ret
      exact ⟨z, rfl, ABz.out, r9.out, rE.out⟩
end Go.Proofs.Ytcipkfalnjgghaa
