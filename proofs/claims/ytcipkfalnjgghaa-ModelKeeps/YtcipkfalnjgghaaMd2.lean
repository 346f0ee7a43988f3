/-
  What a model refuses; its count.
-/
import Derived.Test.YtcipkfalnjgghaaMd1
namespace Go.Proofs.Ytcipkfalnjgghaa
open Go.RowKit Go.BigFrame Go.Maps
set_option linter.unusedVariables false
theorem row1_new (w : World) (v : Value) (t : TypeId) : RowAt w.heap.size 1 (fun _ => v) (w.alloc (.cells #[v] t)) := RowAt.new w 1 (fun _ => v) t
theorem isB_setCell {X : World} {i : Nat} {a : Addr} {v : Value} (h : IsB i (X.setCell a v)) : IsB i X := by
  obtain ⟨cur, fz, h⟩ := h
  by_cases e : i = a.block
  · subst e
    simp only [World.setCell, Array.getElem?_modify, if_true] at h
    cases hq : X.heap[a.block]? with
    | none => rw [hq] at h; cases h
    | some o =>
      rw [hq] at h
      cases o <;> simp at h
      rename_i c el fr
      exact ⟨c, fr, by rw [hq, h.2.1]⟩
  · exact ⟨cur, fz, (Below.heap_setCell X a v i e).symm.trans h⟩
theorem Keeps.setCell {F : Nat → Prop} {w X : World} (h : Keeps F w X) {p : Addr} (hp : F p.block ∨ w.heap.size ≤ p.block) (v : Value) : Keeps F w (X.setCell p v) :=
  ⟨h.os, h.tape, h.output, by rw [World.size_setCell]; exact h.size, fun i hi hn => by
    have hne : i ≠ p.block := fun e => by rcases hp with hp | hp; exact hn (e ▸ hp); omega
    rw [← h.block i hi hn]
    exact Below.heap_setCell X p v i hne, fun i hi e => h.bk i hi (isB_setCell e)⟩
set_option maxRecDepth 20000 in
set_option maxHeartbeats 4000000 in
theorem refuse_any (b : Bool) (c : Int) (w : World) : Calls Try.prog 36 #[.bool b, .int .i64 c] w fun e w' => e = .returned (.int .i64 (if b then c else 0)) ∧ w' = w := by
  cases b
  · go_enter Try.func36, Try.ntmps36
    go_wp2
    go_ret
    exact ⟨rfl, rfl⟩
  · go_enter Try.func36, Try.ntmps36
    go_wp2
    go_ret
    exact ⟨rfl, rfl⟩
set_option maxRecDepth 20000 in
set_option maxHeartbeats 4000000 in
theorem long_any (o : Option Addr) (l k : Nat) (w : World) : Calls Try.prog 30 #[.slice o l k] w fun e w' => e = .returned (.bool (decide ((512 : Int) < (l : Int)))) ∧ w' = w := by
  go_enter Try.func30, Try.ntmps30
  go_wp2
  go_ret
  refine ⟨?_, rfl⟩
  simp
set_option maxRecDepth 20000 in
set_option maxHeartbeats 4000000 in
theorem rsec_neg (h : Hd) (sb pb : Nat) (ep : Int) (r : Rt) (op : Bool) (sl : Int) (p : Nat) (n : Int) (w : World) (hS : RowAt p 64 (mdV h sb pb ep r op sl) w) (cn : n < 0) : Calls Try.prog 25 #[.pointer (some ⟨p, 0, none⟩), .int .i64 n] w fun e w' => e = .returned (.int .i64 100) ∧ w' = w := by
  replace hS := hideit hS
  go_enter Try.func25, Try.ntmps25
  go_upto_region 1 with (fail)
  refine wp_region_lit ?_
  refine xm [some (.int .i64 (n)), some (.bool true), some (.bool true), none, none, none, none, none, none, none, some (.bool true)] (by kernel_rfl) (by simp [xr, go_sem, cn]) ?_
  simp only [xw, p0, p1, p2, p3]
  refine wpList_call rfl (by simp [go_sem]) ((refuse_any true 100 w).mono ?_)
  rintro e yy ⟨rfl, hyy⟩
  refine ⟨_, rfl, ?_⟩
  simp only [Act.put, List.setIfInBounds_toArray, List.set_cons_zero, List.set_cons_succ]
  replace hyy := hyy.symm
  subst hyy
  refine xm [some (.int .i64 100)] (by kernel_rfl) (by simp [xr, go_sem]) ?_
  simp only [xw, p0, p1, p2, p3]
  go_wp2
  go_ret
  exact ⟨rfl, rfl⟩
set_option maxRecDepth 20000 in
set_option maxHeartbeats 4000000 in
theorem rsec_big (h : Hd) (sb pb : Nat) (ep : Int) (r : Rt) (op : Bool) (sl : Int) (p : Nat) (n : Int) (w : World) (hS : RowAt p 64 (mdV h sb pb ep r op sl) w) (cn : ¬ n < 0) (cb : h.se ≤ n) : Calls Try.prog 25 #[.pointer (some ⟨p, 0, none⟩), .int .i64 n] w fun e w' => e = .returned (.int .i64 100) ∧ w' = w := by
  replace hS := hideit hS
  go_enter Try.func25, Try.ntmps25
  go_upto_region 1 with (fail)
  refine wp_region_lit ?_
  have m1 : w.cell? ⟨p, 1, none⟩ = some (.int .i64 (h.se)) := hS.out.1 1 (by decide)
  refine xm [some (.int .i64 (n)), some (.bool false), some (.bool false), some (.int .i64 (n)), some (.pointer (some ⟨p, 0, none⟩)), some (.pointer (some ⟨p, 0, none⟩)), some (.pointer (some ⟨p, 0, none⟩)), some (.pointer (some ⟨p, 1, none⟩)), some (.int .i64 (h.se)), some (.bool true), some (.bool true)] (by kernel_rfl) (by simp [xr, go_sem, cn, m1, cb]) ?_
  simp only [xw, p0, p1, p2, p3]
  clear m1
  refine wpList_call rfl (by simp [go_sem]) ((refuse_any true 100 w).mono ?_)
  rintro e yy ⟨rfl, hyy⟩
  refine ⟨_, rfl, ?_⟩
  simp only [Act.put, List.setIfInBounds_toArray, List.set_cons_zero, List.set_cons_succ]
  replace hyy := hyy.symm
  subst hyy
  refine xm [some (.int .i64 100)] (by kernel_rfl) (by simp [xr, go_sem]) ?_
  simp only [xw, p0, p1, p2, p3]
  go_wp2
  go_ret
  exact ⟨rfl, rfl⟩
set_option maxRecDepth 20000 in
set_option maxHeartbeats 4000000 in
theorem rsec_ok (h : Hd) (sb pb : Nat) (ep : Int) (r : Rt) (op : Bool) (sl : Int) (p : Nat) (n : Int) (w : World) (hS : RowAt p 64 (mdV h sb pb ep r op sl) w) (cn : ¬ n < 0) (cb : ¬ h.se ≤ n) : Calls Try.prog 25 #[.pointer (some ⟨p, 0, none⟩), .int .i64 n] w fun e w' => e = .returned (.int .i64 0) ∧ w' = w := by
  replace hS := hideit hS
  go_enter Try.func25, Try.ntmps25
  go_upto_region 1 with (fail)
  refine wp_region_lit ?_
  have m1 : w.cell? ⟨p, 1, none⟩ = some (.int .i64 (h.se)) := hS.out.1 1 (by decide)
  refine xm [some (.int .i64 (n)), some (.bool false), some (.bool false), some (.int .i64 (n)), some (.pointer (some ⟨p, 0, none⟩)), some (.pointer (some ⟨p, 0, none⟩)), some (.pointer (some ⟨p, 0, none⟩)), some (.pointer (some ⟨p, 1, none⟩)), some (.int .i64 (h.se)), some (.bool false), some (.bool false)] (by kernel_rfl) (by simp [xr, go_sem, cn, m1, cb]) ?_
  simp only [xw, p0, p1, p2, p3]
  clear m1
  refine wpList_call rfl (by simp [go_sem]) ((refuse_any false 100 w).mono ?_)
  rintro e yy ⟨rfl, hyy⟩
  refine ⟨_, rfl, ?_⟩
  simp only [Act.put, List.setIfInBounds_toArray, List.set_cons_zero, List.set_cons_succ]
  replace hyy := hyy.symm
  subst hyy
  refine xm [some (.int .i64 0)] (by kernel_rfl) (by simp [xr, go_sem]) ?_
  simp only [xw, p0, p1, p2, p3]
  go_wp2
  go_ret
  exact ⟨rfl, rfl⟩
theorem rsec_any (h : Hd) (sb pb : Nat) (ep : Int) (r : Rt) (op : Bool) (sl : Int) (p : Nat) (n : Int) (w : World) (hS : RowAt p 64 (mdV h sb pb ep r op sl) w) : Calls Try.prog 25 #[.pointer (some ⟨p, 0, none⟩), .int .i64 n] w fun e w' => e = .returned (.int .i64 (if 0 ≤ n ∧ n < h.se then 0 else 100)) ∧ w' = w := by
  by_cases cn : n < 0
  · rw [if_neg (by omega)]; exact rsec_neg h sb pb ep r op sl p n w hS cn
  · by_cases cb : h.se ≤ n
    · rw [if_neg (by omega)]; exact rsec_big h sb pb ep r op sl p n w hS cn cb
    · rw [if_pos (by omega)]; exact rsec_ok h sb pb ep r op sl p n w hS cn cb
set_option maxRecDepth 20000 in
set_option maxHeartbeats 4000000 in
theorem rslot_neg (h : Hd) (sb pb : Nat) (ep : Int) (r : Rt) (op : Bool) (sl : Int) (p : Nat) (n : Int) (w : World) (hS : RowAt p 64 (mdV h sb pb ep r op sl) w) (cn : n < 0) : Calls Try.prog 42 #[.pointer (some ⟨p, 0, none⟩), .int .i64 n] w fun e w' => e = .returned (.int .i64 100) ∧ w' = w := by
  replace hS := hideit hS
  go_enter Try.func42, Try.ntmps42
  go_upto_region 1 with (fail)
  refine wp_region_lit ?_
  refine xm [some (.int .i64 (n)), some (.bool true), some (.bool true), none, none, none, none, none, none, none, some (.bool true)] (by kernel_rfl) (by simp [xr, go_sem, cn]) ?_
  simp only [xw, p0, p1, p2, p3]
  refine wpList_call rfl (by simp [go_sem]) ((refuse_any true 100 w).mono ?_)
  rintro e yy ⟨rfl, hyy⟩
  refine ⟨_, rfl, ?_⟩
  simp only [Act.put, List.setIfInBounds_toArray, List.set_cons_zero, List.set_cons_succ]
  replace hyy := hyy.symm
  subst hyy
  refine xm [some (.int .i64 100)] (by kernel_rfl) (by simp [xr, go_sem]) ?_
  simp only [xw, p0, p1, p2, p3]
  go_wp2
  go_ret
  exact ⟨rfl, rfl⟩
set_option maxRecDepth 20000 in
set_option maxHeartbeats 4000000 in
theorem rslot_big (h : Hd) (sb pb : Nat) (ep : Int) (r : Rt) (op : Bool) (sl : Int) (p : Nat) (n : Int) (w : World) (hS : RowAt p 64 (mdV h sb pb ep r op sl) w) (cn : ¬ n < 0) (cb : h.sl ≤ n) : Calls Try.prog 42 #[.pointer (some ⟨p, 0, none⟩), .int .i64 n] w fun e w' => e = .returned (.int .i64 100) ∧ w' = w := by
  replace hS := hideit hS
  go_enter Try.func42, Try.ntmps42
  go_upto_region 1 with (fail)
  refine wp_region_lit ?_
  have m1 : w.cell? ⟨p, 2, none⟩ = some (.int .i64 (h.sl)) := hS.out.1 2 (by decide)
  refine xm [some (.int .i64 (n)), some (.bool false), some (.bool false), some (.int .i64 (n)), some (.pointer (some ⟨p, 0, none⟩)), some (.pointer (some ⟨p, 0, none⟩)), some (.pointer (some ⟨p, 0, none⟩)), some (.pointer (some ⟨p, 2, none⟩)), some (.int .i64 (h.sl)), some (.bool true), some (.bool true)] (by kernel_rfl) (by simp [xr, go_sem, cn, m1, cb]) ?_
  simp only [xw, p0, p1, p2, p3]
  clear m1
  refine wpList_call rfl (by simp [go_sem]) ((refuse_any true 100 w).mono ?_)
  rintro e yy ⟨rfl, hyy⟩
  refine ⟨_, rfl, ?_⟩
  simp only [Act.put, List.setIfInBounds_toArray, List.set_cons_zero, List.set_cons_succ]
  replace hyy := hyy.symm
  subst hyy
  refine xm [some (.int .i64 100)] (by kernel_rfl) (by simp [xr, go_sem]) ?_
  simp only [xw, p0, p1, p2, p3]
  go_wp2
  go_ret
  exact ⟨rfl, rfl⟩
set_option maxRecDepth 20000 in
set_option maxHeartbeats 4000000 in
theorem rslot_ok (h : Hd) (sb pb : Nat) (ep : Int) (r : Rt) (op : Bool) (sl : Int) (p : Nat) (n : Int) (w : World) (hS : RowAt p 64 (mdV h sb pb ep r op sl) w) (cn : ¬ n < 0) (cb : ¬ h.sl ≤ n) : Calls Try.prog 42 #[.pointer (some ⟨p, 0, none⟩), .int .i64 n] w fun e w' => e = .returned (.int .i64 0) ∧ w' = w := by
  replace hS := hideit hS
  go_enter Try.func42, Try.ntmps42
  go_upto_region 1 with (fail)
  refine wp_region_lit ?_
  have m1 : w.cell? ⟨p, 2, none⟩ = some (.int .i64 (h.sl)) := hS.out.1 2 (by decide)
  refine xm [some (.int .i64 (n)), some (.bool false), some (.bool false), some (.int .i64 (n)), some (.pointer (some ⟨p, 0, none⟩)), some (.pointer (some ⟨p, 0, none⟩)), some (.pointer (some ⟨p, 0, none⟩)), some (.pointer (some ⟨p, 2, none⟩)), some (.int .i64 (h.sl)), some (.bool false), some (.bool false)] (by kernel_rfl) (by simp [xr, go_sem, cn, m1, cb]) ?_
  simp only [xw, p0, p1, p2, p3]
  clear m1
  refine wpList_call rfl (by simp [go_sem]) ((refuse_any false 100 w).mono ?_)
  rintro e yy ⟨rfl, hyy⟩
  refine ⟨_, rfl, ?_⟩
  simp only [Act.put, List.setIfInBounds_toArray, List.set_cons_zero, List.set_cons_succ]
  replace hyy := hyy.symm
  subst hyy
  refine xm [some (.int .i64 0)] (by kernel_rfl) (by simp [xr, go_sem]) ?_
  simp only [xw, p0, p1, p2, p3]
  go_wp2
  go_ret
  exact ⟨rfl, rfl⟩
theorem rslot_any (h : Hd) (sb pb : Nat) (ep : Int) (r : Rt) (op : Bool) (sl : Int) (p : Nat) (n : Int) (w : World) (hS : RowAt p 64 (mdV h sb pb ep r op sl) w) : Calls Try.prog 42 #[.pointer (some ⟨p, 0, none⟩), .int .i64 n] w fun e w' => e = .returned (.int .i64 (if 0 ≤ n ∧ n < h.sl then 0 else 100)) ∧ w' = w := by
  by_cases cn : n < 0
  · rw [if_neg (by omega)]; exact rslot_neg h sb pb ep r op sl p n w hS cn
  · by_cases cb : h.sl ≤ n
    · rw [if_neg (by omega)]; exact rslot_big h sb pb ep r op sl p n w hS cn cb
    · rw [if_pos (by omega)]; exact rslot_ok h sb pb ep r op sl p n w hS cn cb
set_option maxRecDepth 20000 in
set_option maxHeartbeats 4000000 in
theorem rrek_any (h : Hd) (sb pb : Nat) (ep : Int) (r : Rt) (op : Bool) (sl : Int) (p : Nat) (w : World) (hS : RowAt p 64 (mdV h sb pb ep r op sl) w) : Calls Try.prog 40 #[.pointer (some ⟨p, 0, none⟩)] w fun e w' => e = .returned (.int .i64 (if r.rk then 230 else 0)) ∧ w' = w := by
  replace hS := hideit hS
  have hq := refuse_any r.rk 230 w
  obtain ⟨R, hR⟩ : ∃ R : Int, R = if r.rk then 230 else 0 := ⟨_, rfl⟩
  rw [← hR] at hq ⊢
  replace hq := hideit hq
  clear hR
  go_enter Try.func40, Try.ntmps40
  go_upto_region 1 with (fail)
  refine wp_region_lit ?_
  have m1 : w.cell? ⟨p, 28, none⟩ = some (.bool r.rk) := hS.out.1 28 (by decide)
  refine xm [some (.pointer (some ⟨p, 0, none⟩)), some (.pointer (some ⟨p, 0, none⟩)), some (.pointer (some ⟨p, 27, none⟩)), some (.pointer (some ⟨p, 28, none⟩)), some (.bool r.rk)] (by kernel_rfl) (by simp [xr, go_sem, m1]) ?_
  simp only [xw, p0, p1, p2, p3]
  clear m1
  refine wpList_call rfl (by simp [go_sem]) ((hq.out).mono ?_)
  rintro e yy ⟨rfl, hyy⟩
  refine ⟨_, rfl, ?_⟩
  simp only [Act.put, List.setIfInBounds_toArray, List.set_cons_zero, List.set_cons_succ]
  replace hyy := hyy.symm
  subst hyy
  refine xm [some (.int .i64 (R))] (by kernel_rfl) (by simp [xr, go_sem]) ?_
  simp only [xw, p0, p1, p2, p3]
  go_wp2
  go_ret
  exact ⟨rfl, rfl⟩
theorem md_ct (h : Hd) (sb pb : Nat) (ep : Int) (r : Rt) (op : Bool) (sl : Int) (j : Nat) : (if j = 27 then Value.int .u64 ((r.ct + 1#64).toNat : Int) else mdV h sb pb ep r op sl j) = mdV h sb pb ep { r with ct := r.ct + 1#64 } op sl j := by
  unfold mdV rtv
  by_cases h27 : j = 27
  · subst h27; rfl
  · rw [if_neg h27]
    by_cases h1 : j < 24
    · simp [h1]
    · by_cases h2 : j < 62
      · simp only [h1, h2, if_true, if_false]
        have h3 : j - 27 = 0 ↔ j ≤ 27 := by omega
        by_cases h4 : j = 24
        · simp [h4]
        · by_cases h5 : j = 25
          · simp [h5]
          · by_cases h6 : j = 26
            · simp [h6]
            · have h7 : ¬ j - 27 = 0 := by omega
              simp [h4, h5, h6, h7]
      · simp [h1, h2]
theorem ct_add_w (a : BitVec 64) : IntKind.u64.wrap ((a.toNat : Int) + 1) = ((a + 1#64).toNat : Int) := by
  rw [IntKind.wrap_u64, BitVec.toNat_add, show (1#64 : BitVec 64).toNat = 1 from rfl]; omega
set_option maxRecDepth 20000 in
set_option maxHeartbeats 4000000 in
theorem count_any (h : Hd) (sb pb : Nat) (ep : Int) (r : Rt) (op : Bool) (sl : Int) (p : Nat) (w : World) (hS : RowAt p 64 (mdV h sb pb ep r op sl) w) : Calls Try.prog 38 #[.pointer (some ⟨p, 0, none⟩)] w fun e w' => e = .returned (.int .i64 0) ∧ Keeps (fun i => i = p) w w' ∧ RowAt p 64 (mdV h sb pb ep { r with ct := r.ct + 1#64 } op sl) w' := by
  replace hS := hideit hS
  have ct_add := ct_add_w r.ct
  have hE := hideit (Keeps.refl (fun i => i = p) w)
  go_enter Try.func38, Try.ntmps38
  go_upto_region 1 with (fail)
  refine wp_region_lit ?_
  have m1 : w.cell? ⟨p, 27, none⟩ = some (.int .u64 (r.ct.toNat : Int)) := hS.out.1 27 (by decide)
  refine xm [some (.pointer (some ⟨p, 0, none⟩)), some (.pointer (some ⟨p, 0, none⟩)), some (.pointer (some ⟨p, 27, none⟩)), some (.pointer (some ⟨p, 27, none⟩)), some (.int .u64 (r.ct.toNat : Int)), some (.int .u64 ((r.ct + 1#64).toNat : Int)), some (.pointer (some ⟨p, 0, none⟩)), some (.pointer (some ⟨p, 27, none⟩)), some (.pointer (some ⟨p, 27, none⟩))] (by kernel_rfl) (by simp [xr, go_sem, m1, ct_add]) ?_
  simp only [xw, p0, p1, p2, p3]
  clear m1
  have M0 : w.cell? ⟨p, 27, none⟩ = some (.int .u64 (r.ct.toNat : Int)) := hS.out.1 27 (by decide)
  have M1 : w.frozen? ⟨p, 27, none⟩ = false := hS.out.2.1 27 (by decide)
  have N0 := hideit (hS.out.set 27 (.int .u64 ((r.ct + 1#64).toNat : Int)))
  have NE := hideit (hE.out.setCell (p := ⟨p, 27, none⟩) (.inl rfl) (.int .u64 ((r.ct + 1#64).toNat : Int)))
  refine xst rfl (w.setCell ⟨p, 27, none⟩ (.int .u64 ((r.ct + 1#64).toNat : Int))) (by simp [go_sem, M0, M1]) ?_
  simp only [Act.put]
  generalize w.setCell ⟨p, 27, none⟩ (.int .u64 ((r.ct + 1#64).toNat : Int)) = x2 at N0 NE ⊢
  clear M0 M1
  replace N0 := hideit (N0.out.congr (g' := mdV h sb pb ep { r with ct := r.ct + 1#64 } op sl) (fun j hj => md_ct h sb pb ep r op sl j))
  replace hS := N0
  replace hE := NE
  clear N0 NE
  go_wp2
  go_ret
  exact ⟨rfl, hE.out, hS.out⟩
end Go.Proofs.Ytcipkfalnjgghaa
