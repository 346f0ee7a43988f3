/-
  The walk of RecordMarks. The document's ReadMark and like.
-/
import Derived.Test.YtedgopionpdfeaaDoorQ35
import Derived.Test.YtedgopionpdfeaaDoorQ36
namespace Go.Proofs.YtedgopionpdfeaaDoor
open Go.RowKit Go.BigFrame
set_option linter.unusedVariables false
theorem isMk_nil (f : Nat → BitVec 8) : ¬ isMk 0 f := fun h => by have := isMk_len h.2; omega
/-- bytes as a string -/
def bS (l : Nat) (b : Nat → BitVec 8) : ByteArray := bstr l fun j => ((b j).toNat : Int)
theorem convS (v : Value) (l : Nat) (b : Nat → BitVec 8) (w : World) (h : BV v l b w) : (convert 34 9 v).run Tryd.prog w = .ok (.string (bS l b)) w := convV v l b w h
theorem readm_no (u : Value) (l : Nat) (f : Nat → BitVec 8) (w : World) (hu : BV u l f w) (hl : l ≤ 140737488355328) (hT : TabC w) (hn : ¬ isMk l f) : Calls Tryd.prog 17 #[u] w fun e w' => e = .returned (.tuple #[.int .u64 0, .int .i64 110]) ∧ Ext w w' :=
  (readm_any u l f w hu hl hT).mono fun e w' h => by
    rcases h with ⟨hX, ⟨hy, _⟩ | ⟨_, he⟩⟩
    · exact absurd hy hn
    · exact ⟨he, hX⟩
theorem readm_yes (u : Value) (l : Nat) (f : Nat → BitVec 8) (w : World) (hu : BV u l f w) (hl : l ≤ 140737488355328) (hT : TabC w) (hn : isMk l f) : Calls Tryd.prog 17 #[u] w fun e w' => e = .returned (.tuple #[.int .u64 ((nP f).toNat : Int), .int .i64 0]) ∧ Ext w w' :=
  (readm_any u l f w hu hl hT).mono fun e w' h => by
    rcases h with ⟨hX, ⟨_, he⟩ | ⟨hno, _⟩⟩
    · exact ⟨he, hX⟩
    · exact absurd hn hno
set_option maxRecDepth 20000 in
set_option maxHeartbeats 4000000 in
theorem marks_no (w : World) (hT : TabC w) : Calls Tryd.prog 6 #[.int .u64 ((0#64).toNat : Int)] w fun e w' => e = .returned (.bool true) ∧ Ext w w' := by
  replace hT := hideit hT
  have hE := hideit (Ext.refl w)
  go_enter Tryd.func6, Tryd.ntmps6
  go_upto_region 1 with (fail)
  refine wp_region_lit ?_
  refine wpList_run rfl (.int .u64 ((0#64).toNat : Int)) (by simp [go_sem]) ?_
  simp only [Act.put, List.setIfInBounds_toArray, List.set_cons_zero, List.set_cons_succ]
  refine wpList_call rfl (by simp [go_sem]) ((mark_no w).mono ?_)
  rintro e y ⟨rfl, hy⟩
  refine ⟨_, rfl, ?_⟩
  simp only [Act.put, List.setIfInBounds_toArray, List.set_cons_zero, List.set_cons_succ]
  rw [hy]
  clear hy y
  refine wpList_run rfl (.tuple #[.slice none 0 0, .int .i64 1]) (by simp [go_sem]) ?_
  simp only [Act.put, List.setIfInBounds_toArray, List.set_cons_zero, List.set_cons_succ]
  refine wpList_run rfl (.slice none 0 0) (by simp [go_sem]) ?_
  simp only [Act.put, List.setIfInBounds_toArray, List.set_cons_zero, List.set_cons_succ]
  refine wpList_run rfl (.int .i64 1) (by simp [go_sem]) ?_
  simp only [Act.put, List.setIfInBounds_toArray, List.set_cons_zero, List.set_cons_succ]
  refine wpList_run rfl (.slice none 0 0) (by simp [go_sem]) ?_
  simp only [Act.put, List.setIfInBounds_toArray, List.set_cons_zero, List.set_cons_succ]
  refine wpList_run rfl (.int .i64 1) (by simp [go_sem]) ?_
  simp only [Act.put, List.setIfInBounds_toArray, List.set_cons_zero, List.set_cons_succ]
  go_upto_region 2 with (fail)
  refine wp_region_lit ?_
  refine wpList_run rfl (.int .u64 ((0#64).toNat : Int)) (by simp [go_sem]) ?_
  simp only [Act.put, List.setIfInBounds_toArray, List.set_cons_zero, List.set_cons_succ]
  refine wpList_call rfl (by simp [go_sem]) ((rmark_no w).mono ?_)
  rintro e y ⟨rfl, hy⟩
  refine ⟨_, rfl, ?_⟩
  simp only [Act.put, List.setIfInBounds_toArray, List.set_cons_zero, List.set_cons_succ]
  rw [hy]
  clear hy y
  refine wpList_run rfl (.tuple #[.slice none 0 0, .int .i64 1]) (by simp [go_sem]) ?_
  simp only [Act.put, List.setIfInBounds_toArray, List.set_cons_zero, List.set_cons_succ]
  refine wpList_run rfl (.slice none 0 0) (by simp [go_sem]) ?_
  simp only [Act.put, List.setIfInBounds_toArray, List.set_cons_zero, List.set_cons_succ]
  refine wpList_run rfl (.int .i64 1) (by simp [go_sem]) ?_
  simp only [Act.put, List.setIfInBounds_toArray, List.set_cons_zero, List.set_cons_succ]
  refine wpList_run rfl (.slice none 0 0) (by simp [go_sem]) ?_
  simp only [Act.put, List.setIfInBounds_toArray, List.set_cons_zero, List.set_cons_succ]
  refine wpList_run rfl (.int .i64 1) (by simp [go_sem]) ?_
  simp only [Act.put, List.setIfInBounds_toArray, List.set_cons_zero, List.set_cons_succ]
  have hn : Hid (BV (.slice none 0 0) 0 (fun _ => 0#8) w) := .inl ⟨rfl, rfl⟩
  go_upto_region 3 with (fail)
  refine wp_region_lit ?_
  refine wpList_call rfl (by simp [go_sem]) ((lives_any w hT.out).mono ?_)
  rintro e y1 ⟨rfl, hX2⟩
  refine ⟨_, rfl, ?_⟩
  simp only [Act.put, List.setIfInBounds_toArray, List.set_cons_zero, List.set_cons_succ]
  replace hT := hideit (hT.out.ext hX2)
  replace hn := hideit (hn.out.ext hX2)
  replace hE := hideit (Ext.trans hE.out hX2)

  clear hX2
  refine wpList_run rfl (.bool false) (by simp [go_sem]) ?_
  simp only [Act.put, List.setIfInBounds_toArray, List.set_cons_zero, List.set_cons_succ]
  refine wpList_run rfl (.bool false) (by simp [go_sem]) ?_
  simp only [Act.put, List.setIfInBounds_toArray, List.set_cons_zero, List.set_cons_succ]
  refine wpList_runW rfl (.slice none 0 0) (by simp [go_sem]) ?_
  simp only [Act.put, List.setIfInBounds_toArray, List.set_cons_zero, List.set_cons_succ]
  have cv3 := convS (.slice none 0 0) 0 (fun _ => 0#8) y1 hn.out
  refine wpList_runW rfl (.string (bS 0 (fun _ => 0#8))) (by simp [go_sem, cv3]) ?_
  simp only [Act.put, List.setIfInBounds_toArray, List.set_cons_zero, List.set_cons_succ]
  clear cv3
  refine wpList_runW rfl (.slice none 0 0) (by simp [go_sem]) ?_
  simp only [Act.put, List.setIfInBounds_toArray, List.set_cons_zero, List.set_cons_succ]
  have cv4 := convS (.slice none 0 0) 0 (fun _ => 0#8) y1 hn.out
  refine wpList_runW rfl (.string (bS 0 (fun _ => 0#8))) (by simp [go_sem, cv4]) ?_
  simp only [Act.put, List.setIfInBounds_toArray, List.set_cons_zero, List.set_cons_succ]
  clear cv4
  refine wpList_runW rfl (.bool false) (by simp [go_sem]) ?_
  simp only [Act.put, List.setIfInBounds_toArray, List.set_cons_zero, List.set_cons_succ]
  refine wpList_run rfl (.bool false) (by simp [go_sem]) ?_
  simp only [Act.put, List.setIfInBounds_toArray, List.set_cons_zero, List.set_cons_succ]
  refine wpList_run rfl (.bool false) (by simp [go_sem]) ?_
  simp only [Act.put, List.setIfInBounds_toArray, List.set_cons_zero, List.set_cons_succ]
  refine wpList_runW rfl (.int .i64 1) (by simp [go_sem]) ?_
  simp only [Act.put, List.setIfInBounds_toArray, List.set_cons_zero, List.set_cons_succ]
  refine wpList_runW rfl (.int .i64 1) (by simp [go_sem]) ?_
  simp only [Act.put, List.setIfInBounds_toArray, List.set_cons_zero, List.set_cons_succ]
  refine wpList_runW rfl (.bool false) (by simp [go_sem]) ?_
  simp only [Act.put, List.setIfInBounds_toArray, List.set_cons_zero, List.set_cons_succ]
  refine wpList_run rfl (.bool false) (by simp [go_sem]) ?_
  simp only [Act.put, List.setIfInBounds_toArray, List.set_cons_zero, List.set_cons_succ]
  go_upto_region 5 with (fail)
  refine wp_region_lit ?_
  refine wpList_run rfl (.slice none 0 0) (by simp [go_sem]) ?_
  simp only [Act.put, List.setIfInBounds_toArray, List.set_cons_zero, List.set_cons_succ]
  refine wpList_call rfl (by simp [go_sem]) ((readm_no (.slice none 0 0) 0 (fun _ => 0#8) y1 hn.out (by decide) hT.out (isMk_nil _)).mono ?_)
  rintro e y5 ⟨rfl, hX6⟩
  refine ⟨_, rfl, ?_⟩
  simp only [Act.put, List.setIfInBounds_toArray, List.set_cons_zero, List.set_cons_succ]
  replace hT := hideit (hT.out.ext hX6)
  replace hn := hideit (hn.out.ext hX6)
  replace hE := hideit (Ext.trans hE.out hX6)

  clear hX6
  refine wpList_run rfl (.tuple #[.int .u64 0, .int .i64 110]) (by simp [go_sem]) ?_
  simp only [Act.put, List.setIfInBounds_toArray, List.set_cons_zero, List.set_cons_succ]
  refine wpList_run rfl (.int .u64 0) (by simp [go_sem]) ?_
  simp only [Act.put, List.setIfInBounds_toArray, List.set_cons_zero, List.set_cons_succ]
  refine wpList_run rfl (.int .i64 110) (by simp [go_sem]) ?_
  simp only [Act.put, List.setIfInBounds_toArray, List.set_cons_zero, List.set_cons_succ]
  refine wpList_run rfl (.int .u64 0) (by simp [go_sem]) ?_
  simp only [Act.put, List.setIfInBounds_toArray, List.set_cons_zero, List.set_cons_succ]
  refine wpList_run rfl (.int .i64 110) (by simp [go_sem]) ?_
  simp only [Act.put, List.setIfInBounds_toArray, List.set_cons_zero, List.set_cons_succ]
  go_upto_region 6 with (fail)
  refine wp_region_lit ?_
  refine wpList_run rfl (.int .i64 1) (by simp [go_sem]) ?_
  simp only [Act.put, List.setIfInBounds_toArray, List.set_cons_zero, List.set_cons_succ]
  refine wpList_run rfl (.bool true) (by simp [go_sem]) ?_
  simp only [Act.put, List.setIfInBounds_toArray, List.set_cons_zero, List.set_cons_succ]
  refine wpList_run rfl (.bool true) (by simp [go_sem]) ?_
  simp only [Act.put, List.setIfInBounds_toArray, List.set_cons_zero, List.set_cons_succ]
  refine wpList_runW rfl (.int .i64 110) (by simp [go_sem]) ?_
  simp only [Act.put, List.setIfInBounds_toArray, List.set_cons_zero, List.set_cons_succ]
  refine wpList_runW rfl (.bool true) (by simp [go_sem]) ?_
  simp only [Act.put, List.setIfInBounds_toArray, List.set_cons_zero, List.set_cons_succ]
  refine wpList_run rfl (.bool true) (by simp [go_sem]) ?_
  simp only [Act.put, List.setIfInBounds_toArray, List.set_cons_zero, List.set_cons_succ]
  refine wpList_run rfl (.bool true) (by simp [go_sem]) ?_
  simp only [Act.put, List.setIfInBounds_toArray, List.set_cons_zero, List.set_cons_succ]
  with_reducible refine xnot (by with_unfolding_all rfl) ?_
  simp only [Act.put, List.setIfInBounds_toArray, List.set_cons_zero, List.set_cons_succ]
  with_reducible refine xnot (by with_unfolding_all rfl) ?_
  simp only [Act.put, List.setIfInBounds_toArray, List.set_cons_zero, List.set_cons_succ]
  with_reducible refine xnot (by with_unfolding_all rfl) ?_
  simp only [Act.put, List.setIfInBounds_toArray, List.set_cons_zero, List.set_cons_succ]
  with_reducible refine xnot (by with_unfolding_all rfl) ?_
  simp only [Act.put, List.setIfInBounds_toArray, List.set_cons_zero, List.set_cons_succ]
  with_reducible refine xnot (by with_unfolding_all rfl) ?_
  simp only [Act.put, List.setIfInBounds_toArray, List.set_cons_zero, List.set_cons_succ]
  with_reducible refine xnot (by with_unfolding_all rfl) ?_
  simp only [Act.put, List.setIfInBounds_toArray, List.set_cons_zero, List.set_cons_succ]
  with_reducible refine xnot (by with_unfolding_all rfl) ?_
  simp only [Act.put, List.setIfInBounds_toArray, List.set_cons_zero, List.set_cons_succ]
  with_reducible refine xnot (by with_unfolding_all rfl) ?_
  simp only [Act.put, List.setIfInBounds_toArray, List.set_cons_zero, List.set_cons_succ]
  with_reducible refine xnot (by with_unfolding_all rfl) ?_
  simp only [Act.put, List.setIfInBounds_toArray, List.set_cons_zero, List.set_cons_succ]
  with_reducible refine xnot (by with_unfolding_all rfl) ?_
  simp only [Act.put, List.setIfInBounds_toArray, List.set_cons_zero, List.set_cons_succ]
  with_reducible refine xnot (by with_unfolding_all rfl) ?_
  simp only [Act.put, List.setIfInBounds_toArray, List.set_cons_zero, List.set_cons_succ]
  refine wpList_run rfl (.bool true) (by simp [go_sem]) ?_
  simp only [Act.put, List.setIfInBounds_toArray, List.set_cons_zero, List.set_cons_succ]
  refine wpList_run rfl (.bool true) (by simp [go_sem]) ?_
  simp only [Act.put, List.setIfInBounds_toArray, List.set_cons_zero, List.set_cons_succ]
  go_wp2
  go_ret
  exact ⟨rfl, hE.out⟩
set_option maxRecDepth 20000 in
set_option maxHeartbeats 4000000 in
theorem marks_yes (x : BitVec 64) (hx : x ≠ 0#64) (w : World) (hT : TabC w) : Calls Tryd.prog 6 #[.int .u64 (x.toNat : Int)] w fun e w' => e = .returned (.bool true) ∧ Ext w w' := by
  replace hT := hideit hT
  replace hx := hideit hx
  have hE := hideit (Ext.refl w)
  go_enter Tryd.func6, Tryd.ntmps6
  go_upto_region 1 with (fail)
  refine wp_region_lit ?_
  refine wpList_run rfl (.int .u64 (x.toNat : Int)) (by simp [go_sem]) ?_
  simp only [Act.put, List.setIfInBounds_toArray, List.set_cons_zero, List.set_cons_succ]
  refine wpList_call rfl (by simp [go_sem]) ((mark_any x hx.out w hT.out).mono ?_)
  rintro e y1 ⟨z, rfl, hz, hR, hX2⟩
  refine ⟨_, rfl, ?_⟩
  simp only [Act.put, List.setIfInBounds_toArray, List.set_cons_zero, List.set_cons_succ]
  replace hT := hideit (hT.out.ext hX2)
  replace hE := hideit (Ext.trans hE.out hX2)
  have hA := hideit (bv_row hR)
  clear hR hz
  clear hX2
  refine wpList_run rfl (.tuple #[.slice (some ⟨z, 0, none⟩) 512 512, .int .i64 0]) (by simp [go_sem]) ?_
  simp only [Act.put, List.setIfInBounds_toArray, List.set_cons_zero, List.set_cons_succ]
  refine wpList_run rfl (.slice (some ⟨z, 0, none⟩) 512 512) (by simp [go_sem]) ?_
  simp only [Act.put, List.setIfInBounds_toArray, List.set_cons_zero, List.set_cons_succ]
  refine wpList_run rfl (.int .i64 0) (by simp [go_sem]) ?_
  simp only [Act.put, List.setIfInBounds_toArray, List.set_cons_zero, List.set_cons_succ]
  refine wpList_run rfl (.slice (some ⟨z, 0, none⟩) 512 512) (by simp [go_sem]) ?_
  simp only [Act.put, List.setIfInBounds_toArray, List.set_cons_zero, List.set_cons_succ]
  refine wpList_run rfl (.int .i64 0) (by simp [go_sem]) ?_
  simp only [Act.put, List.setIfInBounds_toArray, List.set_cons_zero, List.set_cons_succ]
  go_upto_region 2 with (fail)
  refine wp_region_lit ?_
  refine wpList_run rfl (.int .u64 (x.toNat : Int)) (by simp [go_sem]) ?_
  simp only [Act.put, List.setIfInBounds_toArray, List.set_cons_zero, List.set_cons_succ]
  refine wpList_call rfl (by simp [go_sem]) ((rmark_any x hx.out y1).mono ?_)
  rintro e y3 ⟨v, rfl, hB, hX4⟩
  refine ⟨_, rfl, ?_⟩
  simp only [Act.put, List.setIfInBounds_toArray, List.set_cons_zero, List.set_cons_succ]
  replace hT := hideit (hT.out.ext hX4)
  replace hA := hideit (hA.out.ext hX4)
  replace hE := hideit (Ext.trans hE.out hX4)
  obtain ⟨vo, vc, rfl⟩ := hB.form
  replace hB := hideit hB
  clear hX4
  refine wpList_run rfl (.tuple #[.slice vo 512 vc, .int .i64 0]) (by simp [go_sem]) ?_
  simp only [Act.put, List.setIfInBounds_toArray, List.set_cons_zero, List.set_cons_succ]
  refine wpList_run rfl (.slice vo 512 vc) (by simp [go_sem]) ?_
  simp only [Act.put, List.setIfInBounds_toArray, List.set_cons_zero, List.set_cons_succ]
  refine wpList_run rfl (.int .i64 0) (by simp [go_sem]) ?_
  simp only [Act.put, List.setIfInBounds_toArray, List.set_cons_zero, List.set_cons_succ]
  refine wpList_run rfl (.slice vo 512 vc) (by simp [go_sem]) ?_
  simp only [Act.put, List.setIfInBounds_toArray, List.set_cons_zero, List.set_cons_succ]
  refine wpList_run rfl (.int .i64 0) (by simp [go_sem]) ?_
  simp only [Act.put, List.setIfInBounds_toArray, List.set_cons_zero, List.set_cons_succ]
  go_upto_region 3 with (fail)
  refine wp_region_lit ?_
  refine wpList_call rfl (by simp [go_sem]) ((lives_any y3 hT.out).mono ?_)
  rintro e y5 ⟨rfl, hX6⟩
  refine ⟨_, rfl, ?_⟩
  simp only [Act.put, List.setIfInBounds_toArray, List.set_cons_zero, List.set_cons_succ]
  replace hT := hideit (hT.out.ext hX6)
  replace hA := hideit (hA.out.ext hX6)
  replace hB := hideit (hB.out.ext hX6)
  replace hE := hideit (Ext.trans hE.out hX6)

  clear hX6
  refine wpList_run rfl (.bool false) (by simp [go_sem]) ?_
  simp only [Act.put, List.setIfInBounds_toArray, List.set_cons_zero, List.set_cons_succ]
  refine wpList_run rfl (.bool false) (by simp [go_sem]) ?_
  simp only [Act.put, List.setIfInBounds_toArray, List.set_cons_zero, List.set_cons_succ]
  refine wpList_runW rfl (.slice (some ⟨z, 0, none⟩) 512 512) (by simp [go_sem]) ?_
  simp only [Act.put, List.setIfInBounds_toArray, List.set_cons_zero, List.set_cons_succ]
  have cv7 := convS (.slice (some ⟨z, 0, none⟩) 512 512) 512 (markF x) y5 hA.out
  refine wpList_runW rfl (.string (bS 512 (markF x))) (by simp [go_sem, cv7]) ?_
  simp only [Act.put, List.setIfInBounds_toArray, List.set_cons_zero, List.set_cons_succ]
  clear cv7
  refine wpList_runW rfl (.slice vo 512 vc) (by simp [go_sem]) ?_
  simp only [Act.put, List.setIfInBounds_toArray, List.set_cons_zero, List.set_cons_succ]
  have cv8 := convS (.slice vo 512 vc) 512 (markF x) y5 hB.out
  refine wpList_runW rfl (.string (bS 512 (markF x))) (by simp [go_sem, cv8]) ?_
  simp only [Act.put, List.setIfInBounds_toArray, List.set_cons_zero, List.set_cons_succ]
  clear cv8
  refine wpList_runW rfl (.bool false) (by simp [go_sem]) ?_
  simp only [Act.put, List.setIfInBounds_toArray, List.set_cons_zero, List.set_cons_succ]
  refine wpList_run rfl (.bool false) (by simp [go_sem]) ?_
  simp only [Act.put, List.setIfInBounds_toArray, List.set_cons_zero, List.set_cons_succ]
  refine wpList_run rfl (.bool false) (by simp [go_sem]) ?_
  simp only [Act.put, List.setIfInBounds_toArray, List.set_cons_zero, List.set_cons_succ]
  refine wpList_runW rfl (.int .i64 0) (by simp [go_sem]) ?_
  simp only [Act.put, List.setIfInBounds_toArray, List.set_cons_zero, List.set_cons_succ]
  refine wpList_runW rfl (.int .i64 0) (by simp [go_sem]) ?_
  simp only [Act.put, List.setIfInBounds_toArray, List.set_cons_zero, List.set_cons_succ]
  refine wpList_runW rfl (.bool false) (by simp [go_sem]) ?_
  simp only [Act.put, List.setIfInBounds_toArray, List.set_cons_zero, List.set_cons_succ]
  refine wpList_run rfl (.bool false) (by simp [go_sem]) ?_
  simp only [Act.put, List.setIfInBounds_toArray, List.set_cons_zero, List.set_cons_succ]
  go_upto_region 5 with (fail)
  refine wp_region_lit ?_
  refine wpList_run rfl (.slice (some ⟨z, 0, none⟩) 512 512) (by simp [go_sem]) ?_
  simp only [Act.put, List.setIfInBounds_toArray, List.set_cons_zero, List.set_cons_succ]
  have kr := readm_yes (.slice (some ⟨z, 0, none⟩) 512 512) 512 (markF x) y5 hA.out (by decide) hT.out (isMk_mark x hx.out)
  rw [nP_mark] at kr
  refine wpList_call rfl (by simp [go_sem]) ((kr).mono ?_)
  rintro e y9 ⟨rfl, hX9⟩
  refine ⟨_, rfl, ?_⟩
  simp only [Act.put, List.setIfInBounds_toArray, List.set_cons_zero, List.set_cons_succ]
  replace hT := hideit (hT.out.ext hX9)
  replace hA := hideit (hA.out.ext hX9)
  replace hB := hideit (hB.out.ext hX9)
  replace hE := hideit (Ext.trans hE.out hX9)
  clear hX9 kr
  refine wpList_run rfl (.tuple #[.int .u64 (x.toNat : Int), .int .i64 0]) (by simp [go_sem]) ?_
  simp only [Act.put, List.setIfInBounds_toArray, List.set_cons_zero, List.set_cons_succ]
  refine wpList_run rfl (.int .u64 (x.toNat : Int)) (by simp [go_sem]) ?_
  simp only [Act.put, List.setIfInBounds_toArray, List.set_cons_zero, List.set_cons_succ]
  refine wpList_run rfl (.int .i64 0) (by simp [go_sem]) ?_
  simp only [Act.put, List.setIfInBounds_toArray, List.set_cons_zero, List.set_cons_succ]
  refine wpList_run rfl (.int .u64 (x.toNat : Int)) (by simp [go_sem]) ?_
  simp only [Act.put, List.setIfInBounds_toArray, List.set_cons_zero, List.set_cons_succ]
  refine wpList_run rfl (.int .i64 0) (by simp [go_sem]) ?_
  simp only [Act.put, List.setIfInBounds_toArray, List.set_cons_zero, List.set_cons_succ]
  go_upto_region 6 with (fail)
  refine wp_region_lit ?_
  refine wpList_run rfl (.int .i64 0) (by simp [go_sem]) ?_
  simp only [Act.put, List.setIfInBounds_toArray, List.set_cons_zero, List.set_cons_succ]
  refine wpList_run rfl (.bool false) (by simp [go_sem]) ?_
  simp only [Act.put, List.setIfInBounds_toArray, List.set_cons_zero, List.set_cons_succ]
  refine wpList_run rfl (.bool false) (by simp [go_sem]) ?_
  simp only [Act.put, List.setIfInBounds_toArray, List.set_cons_zero, List.set_cons_succ]
  with_reducible refine xnot (by with_unfolding_all rfl) ?_
  simp only [Act.put, List.setIfInBounds_toArray, List.set_cons_zero, List.set_cons_succ]
  with_reducible refine xnot (by with_unfolding_all rfl) ?_
  simp only [Act.put, List.setIfInBounds_toArray, List.set_cons_zero, List.set_cons_succ]
  refine wpList_run rfl (.bool false) (by simp [go_sem]) ?_
  simp only [Act.put, List.setIfInBounds_toArray, List.set_cons_zero, List.set_cons_succ]
  refine wpList_run rfl (.bool false) (by simp [go_sem]) ?_
  simp only [Act.put, List.setIfInBounds_toArray, List.set_cons_zero, List.set_cons_succ]
  refine wpList_runW rfl (.int .i64 0) (by simp [go_sem]) ?_
  simp only [Act.put, List.setIfInBounds_toArray, List.set_cons_zero, List.set_cons_succ]
  refine wpList_runW rfl (.bool true) (by simp [go_sem]) ?_
  simp only [Act.put, List.setIfInBounds_toArray, List.set_cons_zero, List.set_cons_succ]
  refine wpList_runW rfl (.bool true) (by simp [go_sem]) ?_
  simp only [Act.put, List.setIfInBounds_toArray, List.set_cons_zero, List.set_cons_succ]
  refine wpList_runW rfl (.int .i64 0) (by simp [go_sem]) ?_
  simp only [Act.put, List.setIfInBounds_toArray, List.set_cons_zero, List.set_cons_succ]
  refine wpList_runW rfl (.bool true) (by simp [go_sem]) ?_
  simp only [Act.put, List.setIfInBounds_toArray, List.set_cons_zero, List.set_cons_succ]
  refine wpList_runW rfl (.bool true) (by simp [go_sem]) ?_
  simp only [Act.put, List.setIfInBounds_toArray, List.set_cons_zero, List.set_cons_succ]
  refine wpList_runW rfl (.bool true) (by simp [go_sem]) ?_
  simp only [Act.put, List.setIfInBounds_toArray, List.set_cons_zero, List.set_cons_succ]
  refine wpList_runW rfl (.int .u64 (x.toNat : Int)) (by simp [go_sem]) ?_
  simp only [Act.put, List.setIfInBounds_toArray, List.set_cons_zero, List.set_cons_succ]
  refine wpList_runW rfl (.int .u64 (x.toNat : Int)) (by simp [go_sem]) ?_
  simp only [Act.put, List.setIfInBounds_toArray, List.set_cons_zero, List.set_cons_succ]
  refine wpList_runW rfl (.bool true) (by simp [go_sem]) ?_
  simp only [Act.put, List.setIfInBounds_toArray, List.set_cons_zero, List.set_cons_succ]
  refine wpList_runW rfl (.bool true) (by simp [go_sem]) ?_
  simp only [Act.put, List.setIfInBounds_toArray, List.set_cons_zero, List.set_cons_succ]
  refine wpList_run rfl (.bool true) (by simp [go_sem]) ?_
  simp only [Act.put, List.setIfInBounds_toArray, List.set_cons_zero, List.set_cons_succ]
  refine wpList_run rfl (.bool true) (by simp [go_sem]) ?_
  simp only [Act.put, List.setIfInBounds_toArray, List.set_cons_zero, List.set_cons_succ]
  go_wp2
  go_ret
  exact ⟨rfl, hE.out⟩
end Go.Proofs.YtedgopionpdfeaaDoor
namespace Go.Proofs.YtedgopionpdfeaaDoor
open Go.RowKit Go.BigFrame
set_option linter.unusedVariables false
theorem xcut {P : Program} {o : Oper} {a : Act} {w : World} {e : TypeId} (t : TypeId) (x lo hi : Operand) (ho : o.op = .slice t x (some lo) (some hi) none) (ad : Addr) (l cap i j : Nat) (hx : a.eval x = .slice (some ad) l cap) (hlo : a.eval lo = .int .i64 (i : Int)) (hhi : a.eval hi = .int .i64 (j : Int)) (hu : P.underlying t = some (.slice e)) (hs : ∀ X, (sizeOf e).run P X = .ok 1 X) (h1 : i < j) (h2 : j ≤ cap) :
    (execOp a.eval o).run P w = .ok (.value (.slice (some (ad.add i)) (j - i) (cap - i))) w := by
  have c1 : (0 : Int) ≤ (j : Int) := by omega
  have c2 : (j : Int) ≤ (cap : Int) := by omega
  have c3 : (0 : Int) ≤ (i : Int) := by omega
  have c4 : (i : Int) ≤ (j : Int) := by omega
  have c5 : ¬ cap = i := by omega
  unfold execOp
  simp only [ho, Option.map_some, Option.map_none, hx, hlo, hhi]
  simp [go_sem, hu, hs, c2, c4, c5]
theorem BV.cut {ad : Addr} {l cap : Nat} {f : Nat → BitVec 8} {w : World} (h : BV (.slice (some ad) l cap) l f w) (i j : Nat) (hi : i < j) (hj : j ≤ l) : j ≤ cap ∧ BV (.slice (some (ad.add i)) (j - i) (cap - i)) (j - i) (shF f i) w := by
  rcases h with ⟨h, _⟩ | ⟨a, c, h, h2, h3⟩
  · cases h
  · injection h with h _ hc
    injection h with h
    subst h
    subst hc
    refine ⟨by omega, .inr ⟨_, _, rfl, by omega, fun k hk => ?_, by unfold Addr.add; split <;> exact h3.2⟩⟩
    rw [add_add]
    exact h3.1 (i + k) (by omega)
theorem BV.nonnil {v : Value} {l : Nat} {f : Nat → BitVec 8} {w : World} (h : BV v l f w) (hl : 0 < l) : ∃ ad cap, v = .slice (some ad) l cap := by
  rcases h with ⟨_, h⟩ | ⟨a, c, h, _, _⟩
  · omega
  · exact ⟨a, c, h⟩
theorem bS_list (n m : Nat) (f g : Nat → BitVec 8) : (bS n f).toList = (bS m g).toList ↔ eqB n m f g = true := by
  rw [← eqB_iff]
  exact ⟨fun h => ba_ext h, fun h => by unfold bS; rw [h]⟩
set_option maxRecDepth 20000 in
set_option maxHeartbeats 4000000 in
theorem rrm_len (u : Value) (l : Nat) (f : Nat → BitVec 8) (w : World) (hu : BV u l f w) (hl : l ≠ 512) : Calls Tryd.prog 18 #[u] w fun e w' => e = .returned (.tuple #[.int .u64 0, .int .i64 110]) ∧ Ext w w' := by
  obtain ⟨oa, cp, rfl⟩ := hu.form
  have hl2 : ¬ (l : Int) = 512 := by omega
  have hE := hideit (Ext.refl w)
  go_enter Tryd.func18, Tryd.ntmps18
  go_upto_region 1 with (fail)
  refine wp_region_lit ?_
  refine wpList_run rfl (.slice oa l cp) (by simp [go_sem]) ?_
  simp only [Act.put, List.setIfInBounds_toArray, List.set_cons_zero, List.set_cons_succ]
  refine wpList_run rfl (.int .i64 (l : Int)) (by simp [go_sem]) ?_
  simp only [Act.put, List.setIfInBounds_toArray, List.set_cons_zero, List.set_cons_succ]
  refine wpList_run rfl (.bool true) (by simp [go_sem, hl2]) ?_
  simp only [Act.put, List.setIfInBounds_toArray, List.set_cons_zero, List.set_cons_succ]
  go_wp2
  refine bodyPost_ret (res2 rfl _ _ _) rfl ?_
  exact ⟨rfl, hE.out⟩
set_option maxRecDepth 20000 in
set_option maxHeartbeats 4000000 in
theorem rrm_zero (u : Value) (f : Nat → BitVec 8) (w : World) (hu : BV u 512 f w) (hn : leN (shF f 4) 8 = 0#64) : Calls Tryd.prog 18 #[u] w fun e w' => e = .returned (.tuple #[.int .u64 0, .int .i64 110]) ∧ Ext w w' := by
  obtain ⟨ad, cap, rfl⟩ := hu.nonnil (by decide)
  obtain ⟨hc, hv⟩ := hu.cut 4 12 (by decide) (by decide)
  replace hu := hideit hu
  replace hv := hideit hv
  replace hn := hideit hn
  have hE := hideit (Ext.refl w)
  go_enter Tryd.func18, Tryd.ntmps18
  go_upto_region 1 with (fail)
  refine wp_region_lit ?_
  refine wpList_run rfl (.slice (some ad) 512 cap) (by simp [go_sem]) ?_
  simp only [Act.put, List.setIfInBounds_toArray, List.set_cons_zero, List.set_cons_succ]
  refine wpList_run rfl (.int .i64 512) (by simp [go_sem]) ?_
  simp only [Act.put, List.setIfInBounds_toArray, List.set_cons_zero, List.set_cons_succ]
  refine wpList_run rfl (.bool false) (by simp [go_sem]) ?_
  simp only [Act.put, List.setIfInBounds_toArray, List.set_cons_zero, List.set_cons_succ]
  go_upto_region 3 with (fail)
  refine wp_region_lit ?_
  refine wpList_run rfl (.slice (some ad) 512 cap) (by simp [go_sem]) ?_
  simp only [Act.put, List.setIfInBounds_toArray, List.set_cons_zero, List.set_cons_succ]
  refine wpList_run rfl (.slice (some (ad.add 4)) 8 (cap - 4)) (xcut 34 (.tmp 10) (.const (.int .i64 4)) (.const (.int .i64 12)) rfl ad 512 cap 4 12 rfl rfl rfl Tryd.underlying34 Tryd.sizeOf5 (by decide) hc) ?_
  simp only [Act.put, List.setIfInBounds_toArray, List.set_cons_zero, List.set_cons_succ]
  have kv := value_any (.slice (some (ad.add 4)) 8 (cap - 4)) 8 (shF f 4) w hv.out (by decide)
  rw [hn.out] at kv
  refine wpList_call rfl (by simp [go_sem]) ((kv).mono ?_)
  rintro e y ⟨rfl, hy⟩
  refine ⟨_, rfl, ?_⟩
  simp only [Act.put, List.setIfInBounds_toArray, List.set_cons_zero, List.set_cons_succ]
  rw [hy]
  clear hy y kv
  refine wpList_run rfl (.int .u64 ((0#64).toNat : Int)) (by simp [go_sem]) ?_
  simp only [Act.put, List.setIfInBounds_toArray, List.set_cons_zero, List.set_cons_succ]
  go_upto_region 4 with (fail)
  refine wp_region_lit ?_
  refine wpList_run rfl (.int .u64 ((0#64).toNat : Int)) (by simp [go_sem]) ?_
  simp only [Act.put, List.setIfInBounds_toArray, List.set_cons_zero, List.set_cons_succ]
  refine wpList_call rfl (by simp [go_sem]) ((rmark_no w).mono ?_)
  rintro e y ⟨rfl, hy⟩
  refine ⟨_, rfl, ?_⟩
  simp only [Act.put, List.setIfInBounds_toArray, List.set_cons_zero, List.set_cons_succ]
  rw [hy]
  clear hy y
  refine wpList_run rfl (.tuple #[.slice none 0 0, .int .i64 1]) (by simp [go_sem]) ?_
  simp only [Act.put, List.setIfInBounds_toArray, List.set_cons_zero, List.set_cons_succ]
  refine wpList_run rfl (.slice none 0 0) (by simp [go_sem]) ?_
  simp only [Act.put, List.setIfInBounds_toArray, List.set_cons_zero, List.set_cons_succ]
  refine wpList_run rfl (.int .i64 1) (by simp [go_sem]) ?_
  simp only [Act.put, List.setIfInBounds_toArray, List.set_cons_zero, List.set_cons_succ]
  refine wpList_run rfl (.slice none 0 0) (by simp [go_sem]) ?_
  simp only [Act.put, List.setIfInBounds_toArray, List.set_cons_zero, List.set_cons_succ]
  refine wpList_run rfl (.int .i64 1) (by simp [go_sem]) ?_
  simp only [Act.put, List.setIfInBounds_toArray, List.set_cons_zero, List.set_cons_succ]
  go_upto_region 5 with (fail)
  refine wp_region_lit ?_
  refine wpList_run rfl (.int .i64 1) (by simp [go_sem]) ?_
  simp only [Act.put, List.setIfInBounds_toArray, List.set_cons_zero, List.set_cons_succ]
  refine wpList_run rfl (.bool true) (by simp [go_sem]) ?_
  simp only [Act.put, List.setIfInBounds_toArray, List.set_cons_zero, List.set_cons_succ]
  refine wpList_run rfl (.bool true) (by simp [go_sem]) ?_
  simp only [Act.put, List.setIfInBounds_toArray, List.set_cons_zero, List.set_cons_succ]
  with_reducible refine xnot (by with_unfolding_all rfl) ?_
  simp only [Act.put, List.setIfInBounds_toArray, List.set_cons_zero, List.set_cons_succ]
  with_reducible refine xnot (by with_unfolding_all rfl) ?_
  simp only [Act.put, List.setIfInBounds_toArray, List.set_cons_zero, List.set_cons_succ]
  with_reducible refine xnot (by with_unfolding_all rfl) ?_
  simp only [Act.put, List.setIfInBounds_toArray, List.set_cons_zero, List.set_cons_succ]
  with_reducible refine xnot (by with_unfolding_all rfl) ?_
  simp only [Act.put, List.setIfInBounds_toArray, List.set_cons_zero, List.set_cons_succ]
  with_reducible refine xnot (by with_unfolding_all rfl) ?_
  simp only [Act.put, List.setIfInBounds_toArray, List.set_cons_zero, List.set_cons_succ]
  refine wpList_run rfl (.bool true) (by simp [go_sem]) ?_
  simp only [Act.put, List.setIfInBounds_toArray, List.set_cons_zero, List.set_cons_succ]
  go_wp2
  refine bodyPost_ret (res2 rfl _ _ _) rfl ?_
  exact ⟨rfl, hE.out⟩
set_option maxRecDepth 20000 in
set_option maxHeartbeats 4000000 in
theorem rrm_no (u : Value) (f : Nat → BitVec 8) (w : World) (hu : BV u 512 f w) (x : BitVec 64) (hn : leN (shF f 4) 8 = x) (hx : x ≠ 0#64) (hq : Hid (¬ (bS 512 (markF x)).toList = (bS 512 f).toList)) : Calls Tryd.prog 18 #[u] w fun e w' => e = .returned (.tuple #[.int .u64 0, .int .i64 110]) ∧ Ext w w' := by
  obtain ⟨ad, cap, rfl⟩ := hu.nonnil (by decide)
  obtain ⟨hc, hv⟩ := hu.cut 4 12 (by decide) (by decide)
  replace hu := hideit hu
  replace hv := hideit hv
  replace hn := hideit hn
  replace hx := hideit hx
  have hE := hideit (Ext.refl w)
  go_enter Tryd.func18, Tryd.ntmps18
  go_upto_region 1 with (fail)
  refine wp_region_lit ?_
  refine wpList_run rfl (.slice (some ad) 512 cap) (by simp [go_sem]) ?_
  simp only [Act.put, List.setIfInBounds_toArray, List.set_cons_zero, List.set_cons_succ]
  refine wpList_run rfl (.int .i64 512) (by simp [go_sem]) ?_
  simp only [Act.put, List.setIfInBounds_toArray, List.set_cons_zero, List.set_cons_succ]
  refine wpList_run rfl (.bool false) (by simp [go_sem]) ?_
  simp only [Act.put, List.setIfInBounds_toArray, List.set_cons_zero, List.set_cons_succ]
  go_upto_region 3 with (fail)
  refine wp_region_lit ?_
  refine wpList_run rfl (.slice (some ad) 512 cap) (by simp [go_sem]) ?_
  simp only [Act.put, List.setIfInBounds_toArray, List.set_cons_zero, List.set_cons_succ]
  refine wpList_run rfl (.slice (some (ad.add 4)) 8 (cap - 4)) (xcut 34 (.tmp 10) (.const (.int .i64 4)) (.const (.int .i64 12)) rfl ad 512 cap 4 12 rfl rfl rfl Tryd.underlying34 Tryd.sizeOf5 (by decide) hc) ?_
  simp only [Act.put, List.setIfInBounds_toArray, List.set_cons_zero, List.set_cons_succ]
  have kv := value_any (.slice (some (ad.add 4)) 8 (cap - 4)) 8 (shF f 4) w hv.out (by decide)
  rw [hn.out] at kv
  refine wpList_call rfl (by simp [go_sem]) ((kv).mono ?_)
  rintro e y ⟨rfl, hy⟩
  refine ⟨_, rfl, ?_⟩
  simp only [Act.put, List.setIfInBounds_toArray, List.set_cons_zero, List.set_cons_succ]
  rw [hy]
  clear hy y kv
  refine wpList_run rfl (.int .u64 (x.toNat : Int)) (by simp [go_sem]) ?_
  simp only [Act.put, List.setIfInBounds_toArray, List.set_cons_zero, List.set_cons_succ]
  go_upto_region 4 with (fail)
  refine wp_region_lit ?_
  refine wpList_run rfl (.int .u64 (x.toNat : Int)) (by simp [go_sem]) ?_
  simp only [Act.put, List.setIfInBounds_toArray, List.set_cons_zero, List.set_cons_succ]
  refine wpList_call rfl (by simp [go_sem]) ((rmark_any x hx.out w).mono ?_)
  rintro e y1 ⟨v, rfl, hB, hX2⟩
  refine ⟨_, rfl, ?_⟩
  simp only [Act.put, List.setIfInBounds_toArray, List.set_cons_zero, List.set_cons_succ]
  replace hu := hideit (hu.out.ext hX2)
  replace hv := hideit (hv.out.ext hX2)
  replace hE := hideit (Ext.trans hE.out hX2)
  obtain ⟨vo, vc, rfl⟩ := hB.form
  replace hB := hideit hB
  clear hX2
  refine wpList_run rfl (.tuple #[.slice vo 512 vc, .int .i64 0]) (by simp [go_sem]) ?_
  simp only [Act.put, List.setIfInBounds_toArray, List.set_cons_zero, List.set_cons_succ]
  refine wpList_run rfl (.slice vo 512 vc) (by simp [go_sem]) ?_
  simp only [Act.put, List.setIfInBounds_toArray, List.set_cons_zero, List.set_cons_succ]
  refine wpList_run rfl (.int .i64 0) (by simp [go_sem]) ?_
  simp only [Act.put, List.setIfInBounds_toArray, List.set_cons_zero, List.set_cons_succ]
  refine wpList_run rfl (.slice vo 512 vc) (by simp [go_sem]) ?_
  simp only [Act.put, List.setIfInBounds_toArray, List.set_cons_zero, List.set_cons_succ]
  refine wpList_run rfl (.int .i64 0) (by simp [go_sem]) ?_
  simp only [Act.put, List.setIfInBounds_toArray, List.set_cons_zero, List.set_cons_succ]
  go_upto_region 5 with (fail)
  refine wp_region_lit ?_
  refine wpList_run rfl (.int .i64 0) (by simp [go_sem]) ?_
  simp only [Act.put, List.setIfInBounds_toArray, List.set_cons_zero, List.set_cons_succ]
  refine wpList_run rfl (.bool false) (by simp [go_sem]) ?_
  simp only [Act.put, List.setIfInBounds_toArray, List.set_cons_zero, List.set_cons_succ]
  refine wpList_run rfl (.bool false) (by simp [go_sem]) ?_
  simp only [Act.put, List.setIfInBounds_toArray, List.set_cons_zero, List.set_cons_succ]
  refine wpList_runW rfl (.slice vo 512 vc) (by simp [go_sem]) ?_
  simp only [Act.put, List.setIfInBounds_toArray, List.set_cons_zero, List.set_cons_succ]
  have cv3 := convS (.slice vo 512 vc) 512 (markF x) y1 hB.out
  refine wpList_runW rfl (.string (bS 512 (markF x))) (by simp [go_sem, cv3]) ?_
  simp only [Act.put, List.setIfInBounds_toArray, List.set_cons_zero, List.set_cons_succ]
  clear cv3
  refine wpList_runW rfl (.slice (some ad) 512 cap) (by simp [go_sem]) ?_
  simp only [Act.put, List.setIfInBounds_toArray, List.set_cons_zero, List.set_cons_succ]
  have cv4 := convS (.slice (some ad) 512 cap) 512 (f) y1 hu.out
  refine wpList_runW rfl (.string (bS 512 (f))) (by simp [go_sem, cv4]) ?_
  simp only [Act.put, List.setIfInBounds_toArray, List.set_cons_zero, List.set_cons_succ]
  clear cv4
  refine wpList_runW rfl (.bool true) (by simp [go_sem, hq.out]) ?_
  simp only [Act.put, List.setIfInBounds_toArray, List.set_cons_zero, List.set_cons_succ]
  refine wpList_run rfl (.bool true) (by simp [go_sem]) ?_
  simp only [Act.put, List.setIfInBounds_toArray, List.set_cons_zero, List.set_cons_succ]
  go_wp2
  refine bodyPost_ret (res2 rfl _ _ _) rfl ?_
  exact ⟨rfl, hE.out⟩
set_option maxRecDepth 20000 in
set_option maxHeartbeats 4000000 in
theorem rrm_yes (u : Value) (f : Nat → BitVec 8) (w : World) (hu : BV u 512 f w) (x : BitVec 64) (hn : leN (shF f 4) 8 = x) (hx : x ≠ 0#64) (hq : Hid ((bS 512 (markF x)).toList = (bS 512 f).toList)) : Calls Tryd.prog 18 #[u] w fun e w' => e = .returned (.tuple #[.int .u64 (x.toNat : Int), .int .i64 0]) ∧ Ext w w' := by
  obtain ⟨ad, cap, rfl⟩ := hu.nonnil (by decide)
  obtain ⟨hc, hv⟩ := hu.cut 4 12 (by decide) (by decide)
  replace hu := hideit hu
  replace hv := hideit hv
  replace hn := hideit hn
  replace hx := hideit hx
  have hE := hideit (Ext.refl w)
  go_enter Tryd.func18, Tryd.ntmps18
  go_upto_region 1 with (fail)
  refine wp_region_lit ?_
  refine wpList_run rfl (.slice (some ad) 512 cap) (by simp [go_sem]) ?_
  simp only [Act.put, List.setIfInBounds_toArray, List.set_cons_zero, List.set_cons_succ]
  refine wpList_run rfl (.int .i64 512) (by simp [go_sem]) ?_
  simp only [Act.put, List.setIfInBounds_toArray, List.set_cons_zero, List.set_cons_succ]
  refine wpList_run rfl (.bool false) (by simp [go_sem]) ?_
  simp only [Act.put, List.setIfInBounds_toArray, List.set_cons_zero, List.set_cons_succ]
  go_upto_region 3 with (fail)
  refine wp_region_lit ?_
  refine wpList_run rfl (.slice (some ad) 512 cap) (by simp [go_sem]) ?_
  simp only [Act.put, List.setIfInBounds_toArray, List.set_cons_zero, List.set_cons_succ]
  refine wpList_run rfl (.slice (some (ad.add 4)) 8 (cap - 4)) (xcut 34 (.tmp 10) (.const (.int .i64 4)) (.const (.int .i64 12)) rfl ad 512 cap 4 12 rfl rfl rfl Tryd.underlying34 Tryd.sizeOf5 (by decide) hc) ?_
  simp only [Act.put, List.setIfInBounds_toArray, List.set_cons_zero, List.set_cons_succ]
  have kv := value_any (.slice (some (ad.add 4)) 8 (cap - 4)) 8 (shF f 4) w hv.out (by decide)
  rw [hn.out] at kv
  refine wpList_call rfl (by simp [go_sem]) ((kv).mono ?_)
  rintro e y ⟨rfl, hy⟩
  refine ⟨_, rfl, ?_⟩
  simp only [Act.put, List.setIfInBounds_toArray, List.set_cons_zero, List.set_cons_succ]
  rw [hy]
  clear hy y kv
  refine wpList_run rfl (.int .u64 (x.toNat : Int)) (by simp [go_sem]) ?_
  simp only [Act.put, List.setIfInBounds_toArray, List.set_cons_zero, List.set_cons_succ]
  go_upto_region 4 with (fail)
  refine wp_region_lit ?_
  refine wpList_run rfl (.int .u64 (x.toNat : Int)) (by simp [go_sem]) ?_
  simp only [Act.put, List.setIfInBounds_toArray, List.set_cons_zero, List.set_cons_succ]
  refine wpList_call rfl (by simp [go_sem]) ((rmark_any x hx.out w).mono ?_)
  rintro e y1 ⟨v, rfl, hB, hX2⟩
  refine ⟨_, rfl, ?_⟩
  simp only [Act.put, List.setIfInBounds_toArray, List.set_cons_zero, List.set_cons_succ]
  replace hu := hideit (hu.out.ext hX2)
  replace hv := hideit (hv.out.ext hX2)
  replace hE := hideit (Ext.trans hE.out hX2)
  obtain ⟨vo, vc, rfl⟩ := hB.form
  replace hB := hideit hB
  clear hX2
  refine wpList_run rfl (.tuple #[.slice vo 512 vc, .int .i64 0]) (by simp [go_sem]) ?_
  simp only [Act.put, List.setIfInBounds_toArray, List.set_cons_zero, List.set_cons_succ]
  refine wpList_run rfl (.slice vo 512 vc) (by simp [go_sem]) ?_
  simp only [Act.put, List.setIfInBounds_toArray, List.set_cons_zero, List.set_cons_succ]
  refine wpList_run rfl (.int .i64 0) (by simp [go_sem]) ?_
  simp only [Act.put, List.setIfInBounds_toArray, List.set_cons_zero, List.set_cons_succ]
  refine wpList_run rfl (.slice vo 512 vc) (by simp [go_sem]) ?_
  simp only [Act.put, List.setIfInBounds_toArray, List.set_cons_zero, List.set_cons_succ]
  refine wpList_run rfl (.int .i64 0) (by simp [go_sem]) ?_
  simp only [Act.put, List.setIfInBounds_toArray, List.set_cons_zero, List.set_cons_succ]
  go_upto_region 5 with (fail)
  refine wp_region_lit ?_
  refine wpList_run rfl (.int .i64 0) (by simp [go_sem]) ?_
  simp only [Act.put, List.setIfInBounds_toArray, List.set_cons_zero, List.set_cons_succ]
  refine wpList_run rfl (.bool false) (by simp [go_sem]) ?_
  simp only [Act.put, List.setIfInBounds_toArray, List.set_cons_zero, List.set_cons_succ]
  refine wpList_run rfl (.bool false) (by simp [go_sem]) ?_
  simp only [Act.put, List.setIfInBounds_toArray, List.set_cons_zero, List.set_cons_succ]
  refine wpList_runW rfl (.slice vo 512 vc) (by simp [go_sem]) ?_
  simp only [Act.put, List.setIfInBounds_toArray, List.set_cons_zero, List.set_cons_succ]
  have cv3 := convS (.slice vo 512 vc) 512 (markF x) y1 hB.out
  refine wpList_runW rfl (.string (bS 512 (markF x))) (by simp [go_sem, cv3]) ?_
  simp only [Act.put, List.setIfInBounds_toArray, List.set_cons_zero, List.set_cons_succ]
  clear cv3
  refine wpList_runW rfl (.slice (some ad) 512 cap) (by simp [go_sem]) ?_
  simp only [Act.put, List.setIfInBounds_toArray, List.set_cons_zero, List.set_cons_succ]
  have cv4 := convS (.slice (some ad) 512 cap) 512 (f) y1 hu.out
  refine wpList_runW rfl (.string (bS 512 (f))) (by simp [go_sem, cv4]) ?_
  simp only [Act.put, List.setIfInBounds_toArray, List.set_cons_zero, List.set_cons_succ]
  clear cv4
  refine wpList_runW rfl (.bool false) (by simp [go_sem, hq.out]) ?_
  simp only [Act.put, List.setIfInBounds_toArray, List.set_cons_zero, List.set_cons_succ]
  refine wpList_run rfl (.bool false) (by simp [go_sem]) ?_
  simp only [Act.put, List.setIfInBounds_toArray, List.set_cons_zero, List.set_cons_succ]
  go_upto_region 7 with (fail)
  refine wp_region_lit ?_
  refine wpList_run rfl (.int .u64 (x.toNat : Int)) (by simp [go_sem]) ?_
  simp only [Act.put, List.setIfInBounds_toArray, List.set_cons_zero, List.set_cons_succ]
  refine wpList_run rfl (.int .u64 (x.toNat : Int)) (by simp [go_sem]) ?_
  simp only [Act.put, List.setIfInBounds_toArray, List.set_cons_zero, List.set_cons_succ]
  refine wpList_run rfl (.int .i64 0) (by simp [go_sem]) ?_
  simp only [Act.put, List.setIfInBounds_toArray, List.set_cons_zero, List.set_cons_succ]
  go_wp2
  refine bodyPost_ret (res2 rfl _ _ _) rfl ?_
  exact ⟨rfl, hE.out⟩
theorem rreadm_no (u : Value) (l : Nat) (f : Nat → BitVec 8) (w : World) (hu : BV u l f w) (hn : ¬ isMk l f) : Calls Tryd.prog 18 #[u] w fun e w' => e = .returned (.tuple #[.int .u64 0, .int .i64 110]) ∧ Ext w w' := by
  by_cases hl : l = 512
  · subst hl
    by_cases h0 : nP f = 0#64
    · exact rrm_zero u f w hu h0
    · exact rrm_no u f w hu (nP f) rfl h0 fun h => hn ⟨h0, (bS_list _ _ _ _).1 h⟩
  · exact rrm_len u l f w hu hl
theorem rreadm_yes (u : Value) (l : Nat) (f : Nat → BitVec 8) (w : World) (hu : BV u l f w) (hn : isMk l f) : Calls Tryd.prog 18 #[u] w fun e w' => e = .returned (.tuple #[.int .u64 ((nP f).toNat : Int), .int .i64 0]) ∧ Ext w w' := by
  obtain rfl : l = 512 := isMk_len hn.2
  exact rrm_yes u f w hu (nP f) rfl hn.1 ((bS_list _ _ _ _).2 hn.2)
theorem BV.cut4 {ad : Addr} {l cap : Nat} {f : Nat → BitVec 8} {w : World} (h : BV (.slice (some ad) l cap) l f w) (hl : 4 ≤ l) : (4 : Int) ≤ (cap : Int) ∧ BV (.slice (some ad) 4 cap) 4 f w := by
  rcases h with ⟨h, _⟩ | ⟨a, c, h, h2, h3⟩
  · cases h
  · injection h with h _ hc
    injection h with h
    subst h
    subst hc
    exact ⟨by omega, .inr ⟨_, _, rfl, by omega, fun k hk => h3.1 k (by omega), h3.2⟩⟩
theorem lab_list (s : ByteArray) (hs : ((List.range 4).map fun j => UInt8.ofNat (labF s j).toNat) = s.data.toList) (f : Nat → BitVec 8) : (bS 4 f).toList = s.data.toList ↔ eqB 4 4 f (labF s) = true := by
  rw [← bS_list]
  have : (bS 4 (labF s)).toList = s.data.toList := by
    rw [ByteArray.toList_eq]
    unfold bS
    rw [bstr_data, hs]
  rw [this]
set_option maxRecDepth 20000 in
set_option maxHeartbeats 4000000 in
theorem like_0 (u : Value) (l : Nat) (f : Nat → BitVec 8) (w : World) (hu : BV u l f w) (hl : 4 ≤ l) (h0 : Hid ((bS 4 f).toList = [80, 76, 65, 78])) : Calls Tryd.prog 29 #[u] w fun e w' => e = .returned (.bool true) ∧ Ext w w' := by
  obtain ⟨ad, cap, rfl⟩ := hu.nonnil (by omega)
  obtain ⟨hc, hv⟩ := hu.cut4 hl
  replace hv := hideit hv
  replace hu := hideit hu
  replace hl := hideit hl
  have hE := hideit (Ext.refl w)
  go_enter Tryd.func29, Tryd.ntmps29
  go_upto_region 1 with (fail)
  refine wp_region_lit ?_
  refine wpList_run rfl (.slice (some ad) l cap) (by simp [go_sem]) ?_
  simp only [Act.put, List.setIfInBounds_toArray, List.set_cons_zero, List.set_cons_succ]
  refine wpList_run rfl (.slice (some ad) 4 cap) (by simp [go_sem, hc]) ?_
  simp only [Act.put, List.setIfInBounds_toArray, List.set_cons_zero, List.set_cons_succ]
  have cv1 := convS (.slice (some ad) 4 cap) 4 (f) w hv.out
  refine wpList_run rfl (.string (bS 4 (f))) (by simp [go_sem, cv1]) ?_
  simp only [Act.put, List.setIfInBounds_toArray, List.set_cons_zero, List.set_cons_succ]
  clear cv1
  refine wpList_run rfl (.string (bS 4 (f))) (by simp [go_sem]) ?_
  simp only [Act.put, List.setIfInBounds_toArray, List.set_cons_zero, List.set_cons_succ]
  go_upto_region 2 with (fail)
  refine wp_region_lit ?_
  refine wpList_run rfl (.string (bS 4 (f))) (by simp [go_sem]) ?_
  simp only [Act.put, List.setIfInBounds_toArray, List.set_cons_zero, List.set_cons_succ]
  refine wpList_run rfl (.bool true) (by simp [go_sem, h0.out]) ?_
  simp only [Act.put, List.setIfInBounds_toArray, List.set_cons_zero, List.set_cons_succ]
  refine wpList_run rfl (.bool true) (by simp [go_sem]) ?_
  simp only [Act.put, List.setIfInBounds_toArray, List.set_cons_zero, List.set_cons_succ]
  with_reducible refine xnot (by with_unfolding_all rfl) ?_
  simp only [Act.put, List.setIfInBounds_toArray, List.set_cons_zero, List.set_cons_succ]
  with_reducible refine xnot (by with_unfolding_all rfl) ?_
  simp only [Act.put, List.setIfInBounds_toArray, List.set_cons_zero, List.set_cons_succ]
  refine wpList_run rfl (.bool true) (by simp [go_sem]) ?_
  simp only [Act.put, List.setIfInBounds_toArray, List.set_cons_zero, List.set_cons_succ]
  refine wpList_run rfl (.bool true) (by simp [go_sem]) ?_
  simp only [Act.put, List.setIfInBounds_toArray, List.set_cons_zero, List.set_cons_succ]
  with_reducible refine xnot (by with_unfolding_all rfl) ?_
  simp only [Act.put, List.setIfInBounds_toArray, List.set_cons_zero, List.set_cons_succ]
  with_reducible refine xnot (by with_unfolding_all rfl) ?_
  simp only [Act.put, List.setIfInBounds_toArray, List.set_cons_zero, List.set_cons_succ]
  refine wpList_run rfl (.bool true) (by simp [go_sem]) ?_
  simp only [Act.put, List.setIfInBounds_toArray, List.set_cons_zero, List.set_cons_succ]
  refine wpList_run rfl (.bool true) (by simp [go_sem]) ?_
  simp only [Act.put, List.setIfInBounds_toArray, List.set_cons_zero, List.set_cons_succ]
  go_wp2
  go_ret
  exact ⟨rfl, hE.out⟩
set_option maxRecDepth 20000 in
set_option maxHeartbeats 4000000 in
theorem like_1 (u : Value) (l : Nat) (f : Nat → BitVec 8) (w : World) (hu : BV u l f w) (hl : 4 ≤ l) (h0 : Hid (¬ (bS 4 f).toList = [80, 76, 65, 78])) (h1 : Hid ((bS 4 f).toList = [68, 79, 78, 69])) : Calls Tryd.prog 29 #[u] w fun e w' => e = .returned (.bool true) ∧ Ext w w' := by
  obtain ⟨ad, cap, rfl⟩ := hu.nonnil (by omega)
  obtain ⟨hc, hv⟩ := hu.cut4 hl
  replace hv := hideit hv
  replace hu := hideit hu
  replace hl := hideit hl
  have hE := hideit (Ext.refl w)
  go_enter Tryd.func29, Tryd.ntmps29
  go_upto_region 1 with (fail)
  refine wp_region_lit ?_
  refine wpList_run rfl (.slice (some ad) l cap) (by simp [go_sem]) ?_
  simp only [Act.put, List.setIfInBounds_toArray, List.set_cons_zero, List.set_cons_succ]
  refine wpList_run rfl (.slice (some ad) 4 cap) (by simp [go_sem, hc]) ?_
  simp only [Act.put, List.setIfInBounds_toArray, List.set_cons_zero, List.set_cons_succ]
  have cv1 := convS (.slice (some ad) 4 cap) 4 (f) w hv.out
  refine wpList_run rfl (.string (bS 4 (f))) (by simp [go_sem, cv1]) ?_
  simp only [Act.put, List.setIfInBounds_toArray, List.set_cons_zero, List.set_cons_succ]
  clear cv1
  refine wpList_run rfl (.string (bS 4 (f))) (by simp [go_sem]) ?_
  simp only [Act.put, List.setIfInBounds_toArray, List.set_cons_zero, List.set_cons_succ]
  go_upto_region 2 with (fail)
  refine wp_region_lit ?_
  refine wpList_run rfl (.string (bS 4 (f))) (by simp [go_sem]) ?_
  simp only [Act.put, List.setIfInBounds_toArray, List.set_cons_zero, List.set_cons_succ]
  refine wpList_run rfl (.bool false) (by simp [go_sem, h0.out]) ?_
  simp only [Act.put, List.setIfInBounds_toArray, List.set_cons_zero, List.set_cons_succ]
  refine wpList_run rfl (.bool false) (by simp [go_sem]) ?_
  simp only [Act.put, List.setIfInBounds_toArray, List.set_cons_zero, List.set_cons_succ]
  refine wpList_runW rfl (.string (bS 4 (f))) (by simp [go_sem]) ?_
  simp only [Act.put, List.setIfInBounds_toArray, List.set_cons_zero, List.set_cons_succ]
  refine wpList_runW rfl (.bool true) (by simp [go_sem, h1.out]) ?_
  simp only [Act.put, List.setIfInBounds_toArray, List.set_cons_zero, List.set_cons_succ]
  refine wpList_run rfl (.bool true) (by simp [go_sem]) ?_
  simp only [Act.put, List.setIfInBounds_toArray, List.set_cons_zero, List.set_cons_succ]
  refine wpList_run rfl (.bool true) (by simp [go_sem]) ?_
  simp only [Act.put, List.setIfInBounds_toArray, List.set_cons_zero, List.set_cons_succ]
  with_reducible refine xnot (by with_unfolding_all rfl) ?_
  simp only [Act.put, List.setIfInBounds_toArray, List.set_cons_zero, List.set_cons_succ]
  with_reducible refine xnot (by with_unfolding_all rfl) ?_
  simp only [Act.put, List.setIfInBounds_toArray, List.set_cons_zero, List.set_cons_succ]
  refine wpList_run rfl (.bool true) (by simp [go_sem]) ?_
  simp only [Act.put, List.setIfInBounds_toArray, List.set_cons_zero, List.set_cons_succ]
  refine wpList_run rfl (.bool true) (by simp [go_sem]) ?_
  simp only [Act.put, List.setIfInBounds_toArray, List.set_cons_zero, List.set_cons_succ]
  go_wp2
  go_ret
  exact ⟨rfl, hE.out⟩
set_option maxRecDepth 20000 in
set_option maxHeartbeats 4000000 in
theorem like_2 (u : Value) (l : Nat) (f : Nat → BitVec 8) (w : World) (hu : BV u l f w) (hl : 4 ≤ l) (h0 : Hid (¬ (bS 4 f).toList = [80, 76, 65, 78])) (h1 : Hid (¬ (bS 4 f).toList = [68, 79, 78, 69])) (h2 : Hid ((bS 4 f).toList = [77, 65, 82, 75])) : Calls Tryd.prog 29 #[u] w fun e w' => e = .returned (.bool true) ∧ Ext w w' := by
  obtain ⟨ad, cap, rfl⟩ := hu.nonnil (by omega)
  obtain ⟨hc, hv⟩ := hu.cut4 hl
  replace hv := hideit hv
  replace hu := hideit hu
  replace hl := hideit hl
  have hE := hideit (Ext.refl w)
  go_enter Tryd.func29, Tryd.ntmps29
  go_upto_region 1 with (fail)
  refine wp_region_lit ?_
  refine wpList_run rfl (.slice (some ad) l cap) (by simp [go_sem]) ?_
  simp only [Act.put, List.setIfInBounds_toArray, List.set_cons_zero, List.set_cons_succ]
  refine wpList_run rfl (.slice (some ad) 4 cap) (by simp [go_sem, hc]) ?_
  simp only [Act.put, List.setIfInBounds_toArray, List.set_cons_zero, List.set_cons_succ]
  have cv1 := convS (.slice (some ad) 4 cap) 4 (f) w hv.out
  refine wpList_run rfl (.string (bS 4 (f))) (by simp [go_sem, cv1]) ?_
  simp only [Act.put, List.setIfInBounds_toArray, List.set_cons_zero, List.set_cons_succ]
  clear cv1
  refine wpList_run rfl (.string (bS 4 (f))) (by simp [go_sem]) ?_
  simp only [Act.put, List.setIfInBounds_toArray, List.set_cons_zero, List.set_cons_succ]
  go_upto_region 2 with (fail)
  refine wp_region_lit ?_
  refine wpList_run rfl (.string (bS 4 (f))) (by simp [go_sem]) ?_
  simp only [Act.put, List.setIfInBounds_toArray, List.set_cons_zero, List.set_cons_succ]
  refine wpList_run rfl (.bool false) (by simp [go_sem, h0.out]) ?_
  simp only [Act.put, List.setIfInBounds_toArray, List.set_cons_zero, List.set_cons_succ]
  refine wpList_run rfl (.bool false) (by simp [go_sem]) ?_
  simp only [Act.put, List.setIfInBounds_toArray, List.set_cons_zero, List.set_cons_succ]
  refine wpList_runW rfl (.string (bS 4 (f))) (by simp [go_sem]) ?_
  simp only [Act.put, List.setIfInBounds_toArray, List.set_cons_zero, List.set_cons_succ]
  refine wpList_runW rfl (.bool false) (by simp [go_sem, h1.out]) ?_
  simp only [Act.put, List.setIfInBounds_toArray, List.set_cons_zero, List.set_cons_succ]
  refine wpList_run rfl (.bool false) (by simp [go_sem]) ?_
  simp only [Act.put, List.setIfInBounds_toArray, List.set_cons_zero, List.set_cons_succ]
  refine wpList_run rfl (.bool false) (by simp [go_sem]) ?_
  simp only [Act.put, List.setIfInBounds_toArray, List.set_cons_zero, List.set_cons_succ]
  refine wpList_runW rfl (.string (bS 4 (f))) (by simp [go_sem]) ?_
  simp only [Act.put, List.setIfInBounds_toArray, List.set_cons_zero, List.set_cons_succ]
  refine wpList_runW rfl (.bool true) (by simp [go_sem, h2.out]) ?_
  simp only [Act.put, List.setIfInBounds_toArray, List.set_cons_zero, List.set_cons_succ]
  refine wpList_run rfl (.bool true) (by simp [go_sem]) ?_
  simp only [Act.put, List.setIfInBounds_toArray, List.set_cons_zero, List.set_cons_succ]
  refine wpList_run rfl (.bool true) (by simp [go_sem]) ?_
  simp only [Act.put, List.setIfInBounds_toArray, List.set_cons_zero, List.set_cons_succ]
  go_wp2
  go_ret
  exact ⟨rfl, hE.out⟩
set_option maxRecDepth 20000 in
set_option maxHeartbeats 4000000 in
theorem like_3 (u : Value) (l : Nat) (f : Nat → BitVec 8) (w : World) (hu : BV u l f w) (hl : 4 ≤ l) (h0 : Hid (¬ (bS 4 f).toList = [80, 76, 65, 78])) (h1 : Hid (¬ (bS 4 f).toList = [68, 79, 78, 69])) (h2 : Hid (¬ (bS 4 f).toList = [77, 65, 82, 75])) : Calls Tryd.prog 29 #[u] w fun e w' => e = .returned (.bool false) ∧ Ext w w' := by
  obtain ⟨ad, cap, rfl⟩ := hu.nonnil (by omega)
  obtain ⟨hc, hv⟩ := hu.cut4 hl
  replace hv := hideit hv
  replace hu := hideit hu
  replace hl := hideit hl
  have hE := hideit (Ext.refl w)
  go_enter Tryd.func29, Tryd.ntmps29
  go_upto_region 1 with (fail)
  refine wp_region_lit ?_
  refine wpList_run rfl (.slice (some ad) l cap) (by simp [go_sem]) ?_
  simp only [Act.put, List.setIfInBounds_toArray, List.set_cons_zero, List.set_cons_succ]
  refine wpList_run rfl (.slice (some ad) 4 cap) (by simp [go_sem, hc]) ?_
  simp only [Act.put, List.setIfInBounds_toArray, List.set_cons_zero, List.set_cons_succ]
  have cv1 := convS (.slice (some ad) 4 cap) 4 (f) w hv.out
  refine wpList_run rfl (.string (bS 4 (f))) (by simp [go_sem, cv1]) ?_
  simp only [Act.put, List.setIfInBounds_toArray, List.set_cons_zero, List.set_cons_succ]
  clear cv1
  refine wpList_run rfl (.string (bS 4 (f))) (by simp [go_sem]) ?_
  simp only [Act.put, List.setIfInBounds_toArray, List.set_cons_zero, List.set_cons_succ]
  go_upto_region 2 with (fail)
  refine wp_region_lit ?_
  refine wpList_run rfl (.string (bS 4 (f))) (by simp [go_sem]) ?_
  simp only [Act.put, List.setIfInBounds_toArray, List.set_cons_zero, List.set_cons_succ]
  refine wpList_run rfl (.bool false) (by simp [go_sem, h0.out]) ?_
  simp only [Act.put, List.setIfInBounds_toArray, List.set_cons_zero, List.set_cons_succ]
  refine wpList_run rfl (.bool false) (by simp [go_sem]) ?_
  simp only [Act.put, List.setIfInBounds_toArray, List.set_cons_zero, List.set_cons_succ]
  refine wpList_runW rfl (.string (bS 4 (f))) (by simp [go_sem]) ?_
  simp only [Act.put, List.setIfInBounds_toArray, List.set_cons_zero, List.set_cons_succ]
  refine wpList_runW rfl (.bool false) (by simp [go_sem, h1.out]) ?_
  simp only [Act.put, List.setIfInBounds_toArray, List.set_cons_zero, List.set_cons_succ]
  refine wpList_run rfl (.bool false) (by simp [go_sem]) ?_
  simp only [Act.put, List.setIfInBounds_toArray, List.set_cons_zero, List.set_cons_succ]
  refine wpList_run rfl (.bool false) (by simp [go_sem]) ?_
  simp only [Act.put, List.setIfInBounds_toArray, List.set_cons_zero, List.set_cons_succ]
  refine wpList_runW rfl (.string (bS 4 (f))) (by simp [go_sem]) ?_
  simp only [Act.put, List.setIfInBounds_toArray, List.set_cons_zero, List.set_cons_succ]
  refine wpList_runW rfl (.bool false) (by simp [go_sem, h2.out]) ?_
  simp only [Act.put, List.setIfInBounds_toArray, List.set_cons_zero, List.set_cons_succ]
  refine wpList_run rfl (.bool false) (by simp [go_sem]) ?_
  simp only [Act.put, List.setIfInBounds_toArray, List.set_cons_zero, List.set_cons_succ]
  refine wpList_run rfl (.bool false) (by simp [go_sem]) ?_
  simp only [Act.put, List.setIfInBounds_toArray, List.set_cons_zero, List.set_cons_succ]
  go_wp2
  go_ret
  exact ⟨rfl, hE.out⟩
theorem rlike_any (u : Value) (l : Nat) (f : Nat → BitVec 8) (w : World) (hu : BV u l f w) (hl : 4 ≤ l) : Calls Tryd.prog 29 #[u] w fun e w' => e = .returned (.bool (like l f)) ∧ Ext w w' := by
  have e0 := lab_list (nmS 0) (by decide) f
  have e1 := lab_list (nmS 1) (by decide) f
  have e2 := lab_list (nmS 2) (by decide) f
  have p (i : Nat) : pre4 (nmS i) l f = eqB 4 4 f (labF (nmS i)) := by unfold pre4; rw [decide_eq_true hl]; rfl
  unfold like
  rw [p, p, p]
  by_cases h0 : eqB 4 4 f (labF (nmS 0)) = true
  · rw [h0]
    exact like_0 u l f w hu hl (e0.2 h0)
  · by_cases h1 : eqB 4 4 f (labF (nmS 1)) = true
    · rw [Bool.eq_false_iff.2 h0, h1]
      exact like_1 u l f w hu hl (fun h => h0 (e0.1 h)) (e1.2 h1)
    · by_cases h2 : eqB 4 4 f (labF (nmS 2)) = true
      · rw [Bool.eq_false_iff.2 h0, Bool.eq_false_iff.2 h1, h2]
        exact like_2 u l f w hu hl (fun h => h0 (e0.1 h)) (fun h => h1 (e1.1 h)) (e2.2 h2)
      · rw [Bool.eq_false_iff.2 h0, Bool.eq_false_iff.2 h1, Bool.eq_false_iff.2 h2]
        exact like_3 u l f w hu hl (fun h => h0 (e0.1 h)) (fun h => h1 (e1.1 h)) (fun h => h2 (e2.1 h))
end Go.Proofs.YtedgopionpdfeaaDoor
