/-
  What is set, told, struck, cleared and counted of a Sorted; a nil one.
-/
import Derived.Test.YtboncdlihgpepaaSo1
namespace Go.Proofs.Ytboncdlihgpepaa
open Go.RowKit Go.BigFrame Go.Maps Go.ChangeMaps Go.MapKept
set_option linter.unusedVariables false
theorem xmapu {P : Program} {o : Oper} {a : Act} {w w' : World} (t : TypeId) (x y z : Operand) {m k v : Value} (ho : o.op = .mapUpdate t x y z) (hx : a.eval x = m) (hy : a.eval y = k) (hz : a.eval z = v) (hr : (Instr.mapUpdate t m k v).run P w = .ok () w') : (execOp a.eval o).run P w = .ok .skip w' := by
  unfold execOp
  simp [ho, hx, hy, hz, hr, Result.andThen]
theorem xlook {P : Program} {o : Oper} {a : Act} {w : World} {t : TypeId} {m k v : Value} {c : Bool} (x y : Operand) (ho : o.op = .lookup t x y c) (hx : a.eval x = m) (hy : a.eval y = k) (hr : (Instr.lookup t m k c).run P w = .ok v w) : (execOp a.eval o).run P w = .ok (.value v) w := by
  generalize a.eval = ρ at hx hy ⊢
  simp [execOp, ho, hx, hy, hr, Result.andThen]
theorem SoAt.turned {sb mb : Nat} {L L' : List KV} {w w' : World} (h : SoAt sb mb L w) (k : But mb w w') (hM : MapL mb L' w') : SoAt sb mb L' w' := ⟨h.row.but k h.ne, hM, h.ne⟩
set_option maxRecDepth 20000 in
set_option maxHeartbeats 4000000 in
theorem new_any (w : World) : Calls Try.prog 31 #[] w fun e w' => ∃ sb mb, e = .returned (.pointer (some ⟨sb, 0, none⟩)) ∧ SoAt sb mb [] w' ∧ Ext w w' ∧ w.heap.size ≤ mb ∧ w.heap.size ≤ sb := by
  go_enter Try.func31, Try.ntmps31
  have hmm := @run_makeMap Try.prog
  go_wp2
  go_ret
  refine ⟨w.heap.size + 1, w.heap.size, by simp, ⟨?_, ?_, by omega⟩, ((Below.refl _ _).alloc (Nat.le_refl _) _).alloc (by simp) _, Nat.le_refl _, by omega⟩
  · have h := row1_new (w.alloc (.map #[] 0)) (.map (some w.heap.size)) 83
    rw [show (w.alloc (.map #[] 0)).heap.size = w.heap.size + 1 by simp] at h
    exact h
  · exact (mapL_made w).ext ((Below.refl _ _).alloc (Nat.le_refl _) _)
set_option maxRecDepth 20000 in
set_option maxHeartbeats 4000000 in
theorem set_go {sb mb : Nat} {L : List KV} {w : World} (h : SoAt sb mb L w) {x : Int} (hx : okI x) (hn : L.length < maxLen) (t : ByteArray) : Calls Try.prog 33 #[.pointer (some ⟨sb, 0, none⟩), .int .i64 x, .string t] w fun e w' => e = .returned (.tuple #[]) ∧ MapL mb (kset L x t) w' ∧ But mb w w' := by
  have hS := hideit h.row
  have hM := hideit h.map
  have hne := h.ne
  clear h
  replace hx := hideit hx
  replace hn := hideit hn
  go_enter Try.func33, Try.ntmps33
  go_upto_region 0 with (fail)
  refine wp_region_lit ?_
  refine xm [some (.pointer (some ⟨sb, 0, none⟩)), some (.bool false)] (by kernel_rfl) (by simp [xr, go_sem]) ?_
  simp only [xw, p0, p1, p2, p3]
  go_upto_region 1 with (fail)
  refine wp_region_lit ?_
  have m1 : w.cell? ⟨sb, 0, none⟩ = some (.map (some mb)) := hS.out.1 0 (by decide)
  refine xm [some (.pointer (some ⟨sb, 0, none⟩)), some (.pointer (some ⟨sb, 0, none⟩)), some (.pointer (some ⟨sb, 0, none⟩)), some (.map (some mb)), some (.int .i64 (x)), some (.string t)] (by kernel_rfl) (by simp [xr, go_sem, m1]) ?_
  simp only [xw, p0, p1, p2, p3]
  clear m1
  obtain ⟨w2, hr, hM2, hB⟩ := hM.out.put hn.out hx.out t
  refine xst rfl w2 (xmapu 81 (.tmp 11) (.tmp 12) (.tmp 13) rfl rfl rfl rfl hr) ?_
  simp only [Act.put]
  refine wpList_nil ?_
  go_wp2
  go_end0
  exact ⟨rfl, hM2, hB⟩
set_option maxRecDepth 20000 in
set_option maxHeartbeats 4000000 in
theorem get_go {sb mb : Nat} {L : List KV} {w : World} (h : SoAt sb mb L w) {x : Int} (hx : okI x) : Calls Try.prog 35 #[.pointer (some ⟨sb, 0, none⟩), .int .i64 x] w fun e w' => e = .returned (.tuple #[.string ((kget L x).getD ByteArray.empty), .bool (kget L x).isSome]) ∧ w' = w := by
  have hS := hideit h.row
  have hM := hideit h.map
  have hne := h.ne
  clear h
  replace hx := hideit hx
  go_enter Try.func35, Try.ntmps35
  go_upto_region 0 with (fail)
  refine wp_region_lit ?_
  refine xm [some (.string { data := #[] }), some (.bool false)] (by kernel_rfl) (by simp [xr, go_sem]) ?_
  simp only [xw, p0, p1, p2, p3]
  go_upto_region 1 with (fail)
  refine wp_region_lit ?_
  refine xm [some (.pointer (some ⟨sb, 0, none⟩)), some (.bool false)] (by kernel_rfl) (by simp [xr, go_sem]) ?_
  simp only [xw, p0, p1, p2, p3]
  go_upto_region 4 with (fail)
  refine wp_region_lit ?_
  have m1 : w.cell? ⟨sb, 0, none⟩ = some (.map (some mb)) := hS.out.1 0 (by decide)
  refine xm [some (.pointer (some ⟨sb, 0, none⟩)), some (.pointer (some ⟨sb, 0, none⟩)), some (.pointer (some ⟨sb, 0, none⟩)), some (.map (some mb)), some (.int .i64 (x))] (by kernel_rfl) (by simp [xr, go_sem, m1]) ?_
  simp only [xw, p0, p1, p2, p3]
  clear m1
  refine wpList_run rfl (.tuple #[.string ((kget L x).getD ByteArray.empty), .bool (kget L x).isSome]) (xlook (.tmp 16) (.tmp 17) rfl rfl rfl (hM.out.look hx.out)) ?_
  simp only [Act.put, List.setIfInBounds_toArray, List.set_cons_zero, List.set_cons_succ]
  refine xm [some (.tuple #[.string ((kget L x).getD ByteArray.empty), .bool (kget L x).isSome]), some (.string ((kget L x).getD ByteArray.empty)), some (.bool (kget L x).isSome), some (.string ((kget L x).getD ByteArray.empty)), some (.bool (kget L x).isSome)] (by kernel_rfl) (by simp [xr, go_sem]) ?_
  simp only [xw, p0, p1, p2, p3]
  go_upto_region 5 with (fail)
  refine wp_region_lit ?_
  refine xm [some (.string ((kget L x).getD ByteArray.empty)), some (.bool (kget L x).isSome), some (.string ((kget L x).getD ByteArray.empty)), some (.bool (kget L x).isSome)] (by kernel_rfl) (by simp [xr, go_sem]) ?_
  simp only [xw, p0, p1, p2, p3]
  go_wp2
  refine bodyPost_ret (res2 rfl _ _ _) rfl ?_
  exact ⟨rfl, rfl⟩
set_option maxRecDepth 20000 in
set_option maxHeartbeats 4000000 in
theorem len_go {sb mb : Nat} {L : List KV} {w : World} (h : SoAt sb mb L w) : Calls Try.prog 40 #[.pointer (some ⟨sb, 0, none⟩)] w fun e w' => e = .returned (.int .i64 (L.length : Int)) ∧ w' = w := by
  have hS := hideit h.row
  have hM := hideit h.map
  have hne := h.ne
  clear h
  go_enter Try.func40, Try.ntmps40
  go_upto_region 0 with (fail)
  refine wp_region_lit ?_
  refine xm [some (.int .i64 0)] (by kernel_rfl) (by simp [xr, go_sem]) ?_
  simp only [xw, p0, p1, p2, p3]
  go_upto_region 1 with (fail)
  refine wp_region_lit ?_
  refine xm [some (.pointer (some ⟨sb, 0, none⟩)), some (.bool false)] (by kernel_rfl) (by simp [xr, go_sem]) ?_
  simp only [xw, p0, p1, p2, p3]
  go_upto_region 3 with (fail)
  refine wp_region_lit ?_
  have m1 : w.cell? ⟨sb, 0, none⟩ = some (.map (some mb)) := hS.out.1 0 (by decide)
  refine xm [some (.pointer (some ⟨sb, 0, none⟩)), some (.pointer (some ⟨sb, 0, none⟩)), some (.pointer (some ⟨sb, 0, none⟩)), some (.map (some mb))] (by kernel_rfl) (by simp [xr, go_sem, m1]) ?_
  simp only [xw, p0, p1, p2, p3]
  clear m1
  refine xm [some (.int .i64 (L.length : Int)), some (.int .i64 (L.length : Int))] (by kernel_rfl) (by simp [xr, go_sem, hM.out.len 3]) ?_
  simp only [xw, p0, p1, p2, p3]
  go_wp2
  go_ret
  exact ⟨rfl, rfl⟩
set_option maxRecDepth 20000 in
set_option maxHeartbeats 4000000 in
theorem del_go {sb mb : Nat} {L : List KV} {w : World} (h : SoAt sb mb L w) {x : Int} (hx : okI x) : Calls Try.prog 37 #[.pointer (some ⟨sb, 0, none⟩), .int .i64 x] w fun e w' => e = .returned (.bool (kget L x).isSome) ∧ MapL mb (kdel L x) w' ∧ But mb w w' := by
  have hS := hideit h.row
  have hM := hideit h.map
  have hne := h.ne
  clear h
  replace hx := hideit hx
  go_enter Try.func37, Try.ntmps37
  go_upto_region 0 with (fail)
  refine wp_region_lit ?_
  refine xm [some (.bool false)] (by kernel_rfl) (by simp [xr, go_sem]) ?_
  simp only [xw, p0, p1, p2, p3]
  go_upto_region 1 with (fail)
  refine wp_region_lit ?_
  refine xm [some (.pointer (some ⟨sb, 0, none⟩)), some (.bool false)] (by kernel_rfl) (by simp [xr, go_sem]) ?_
  simp only [xw, p0, p1, p2, p3]
  go_upto_region 3 with (fail)
  refine wp_region_lit ?_
  have m1 : w.cell? ⟨sb, 0, none⟩ = some (.map (some mb)) := hS.out.1 0 (by decide)
  refine xm [some (.pointer (some ⟨sb, 0, none⟩)), some (.pointer (some ⟨sb, 0, none⟩)), some (.pointer (some ⟨sb, 0, none⟩)), some (.map (some mb)), some (.int .i64 (x))] (by kernel_rfl) (by simp [xr, go_sem, m1]) ?_
  simp only [xw, p0, p1, p2, p3]
  clear m1
  refine wpList_run rfl (.tuple #[.string ((kget L x).getD ByteArray.empty), .bool (kget L x).isSome]) (xlook (.tmp 13) (.tmp 14) rfl rfl rfl (hM.out.look hx.out)) ?_
  simp only [Act.put, List.setIfInBounds_toArray, List.set_cons_zero, List.set_cons_succ]
  refine xm [some (.tuple #[.string ((kget L x).getD ByteArray.empty), .bool (kget L x).isSome]), some (.string ((kget L x).getD ByteArray.empty)), some (.bool (kget L x).isSome), some (.string ((kget L x).getD ByteArray.empty)), some (.bool (kget L x).isSome)] (by kernel_rfl) (by simp [xr, go_sem]) ?_
  simp only [xw, p0, p1, p2, p3]
  go_upto_region 4 with (fail)
  refine wp_region_lit ?_
  have m2 : w.cell? ⟨sb, 0, none⟩ = some (.map (some mb)) := hS.out.1 0 (by decide)
  refine xm [some (.pointer (some ⟨sb, 0, none⟩)), some (.pointer (some ⟨sb, 0, none⟩)), some (.pointer (some ⟨sb, 0, none⟩)), some (.map (some mb)), some (.int .i64 (x))] (by kernel_rfl) (by simp [xr, go_sem, m2]) ?_
  simp only [xw, p0, p1, p2, p3]
  clear m2
  obtain ⟨w2, hr, hM2, hB⟩ := hM.out.strike hx.out 0
  refine wpList_to rfl (.tuple #[]) w2 (by simp [go_sem, hr]) ?_
  simp only [Act.put]
  refine wpList_nil ?_
  go_wp2
  go_ret
  exact ⟨rfl, hM2, hB⟩
set_option maxRecDepth 20000 in
set_option maxHeartbeats 4000000 in
theorem clear_go {sb mb : Nat} {L : List KV} {w : World} (h : SoAt sb mb L w) : Calls Try.prog 39 #[.pointer (some ⟨sb, 0, none⟩)] w fun e w' => e = .returned (.tuple #[]) ∧ MapL mb [] w' ∧ But mb w w' := by
  have hS := hideit h.row
  have hM := hideit h.map
  have hne := h.ne
  clear h
  go_enter Try.func39, Try.ntmps39
  go_upto_region 0 with (fail)
  refine wp_region_lit ?_
  refine xm [some (.pointer (some ⟨sb, 0, none⟩)), some (.bool false)] (by kernel_rfl) (by simp [xr, go_sem]) ?_
  simp only [xw, p0, p1, p2, p3]
  go_upto_region 1 with (fail)
  refine wp_region_lit ?_
  have m1 : w.cell? ⟨sb, 0, none⟩ = some (.map (some mb)) := hS.out.1 0 (by decide)
  refine xm [some (.pointer (some ⟨sb, 0, none⟩)), some (.pointer (some ⟨sb, 0, none⟩)), some (.pointer (some ⟨sb, 0, none⟩)), some (.map (some mb))] (by kernel_rfl) (by simp [xr, go_sem, m1]) ?_
  simp only [xw, p0, p1, p2, p3]
  clear m1
  obtain ⟨w2, hr, hM2, hB⟩ := hM.out.wipe 0
  refine wpList_to rfl (.tuple #[]) w2 (by simp [go_sem, hr]) ?_
  simp only [Act.put]
  refine wpList_nil ?_
  go_wp2
  go_end0
  exact ⟨rfl, hM2, hB⟩
set_option maxRecDepth 20000 in
set_option maxHeartbeats 4000000 in
theorem nil_set (x : Int) (t : ByteArray) (w : World) : Calls Try.prog 33 #[.pointer none, .int .i64 x, .string t] w fun e w' => e = .returned (.tuple #[]) ∧ w' = w := by
  go_enter Try.func33, Try.ntmps33
  go_wp2
  refine bodyPost_ret (results_none rfl _ _ _) rfl ?_
  exact ⟨rfl, rfl⟩
set_option maxRecDepth 20000 in
set_option maxHeartbeats 4000000 in
theorem nil_get (x : Int) (w : World) : Calls Try.prog 35 #[.pointer none, .int .i64 x] w fun e w' => e = .returned (.tuple #[.string ByteArray.empty, .bool false]) ∧ w' = w := by
  go_enter Try.func35, Try.ntmps35
  go_wp2
  refine bodyPost_ret (res2 rfl _ _ _) rfl ?_
  exact ⟨rfl, rfl⟩
set_option maxRecDepth 20000 in
set_option maxHeartbeats 4000000 in
theorem nil_del (x : Int) (w : World) : Calls Try.prog 37 #[.pointer none, .int .i64 x] w fun e w' => e = .returned (.bool false) ∧ w' = w := by
  go_enter Try.func37, Try.ntmps37
  go_wp2
  go_ret
  exact ⟨rfl, rfl⟩
set_option maxRecDepth 20000 in
set_option maxHeartbeats 4000000 in
theorem nil_clear (w : World) : Calls Try.prog 39 #[.pointer none] w fun e w' => e = .returned (.tuple #[]) ∧ w' = w := by
  go_enter Try.func39, Try.ntmps39
  go_wp2
  refine bodyPost_ret (results_none rfl _ _ _) rfl ?_
  exact ⟨rfl, rfl⟩
set_option maxRecDepth 20000 in
set_option maxHeartbeats 4000000 in
theorem nil_len (w : World) : Calls Try.prog 40 #[.pointer none] w fun e w' => e = .returned (.int .i64 0) ∧ w' = w := by
  go_enter Try.func40, Try.ntmps40
  go_wp2
  go_ret
  exact ⟨rfl, rfl⟩
end Go.Proofs.Ytboncdlihgpepaa
