/-
  Steps in order. A journal in memory: what it tells of itself.
-/
import Derived.Test.YtiakkclabgelfaaDoorQc1
import Derived.Test.YtiakkclabgelfaaDoorQc40
namespace Go.Proofs.YtiakkclabgelfaaDoor
open Go.RowKit Go.BigFrame Go.Maps
set_option linter.unusedVariables false
set_option maxRecDepth 20000
set_option maxRecDepth 20000 in
set_option maxHeartbeats 4000000 in
theorem ino_any (a : Addr) (k c : Nat) (hk : k < 1000) (g : Nat → FuncId) (bd fr : Nat → Array Value) (w : World) (P : Nat → World → Prop) (R : Int → World → Prop) (h0 : P 0 w) (hI : ∀ i W, P i W → ∀ j, j < k → W.cell? (a.add j) = some (fnV g bd fr j))
    (hen : ∀ i, i < k → ∀ args X, (callFunc (g i) args).run Tryd.prog X = .ok (.enter (g i) args) X)
    (hst : ∀ i, i < k → ∀ W, P i W → Calls Tryd.prog (g i) (bd i ++ fr i) W fun e w' => ∃ c : Int, e = .returned (.int .i64 c) ∧ (c = 0 → P (i + 1) w') ∧ (c ≠ 0 → R c w')) :
    Calls Tryd.prog 32 #[.slice (some a) k c] w fun e w' => ∃ c : Int, e = .returned (.int .i64 c) ∧ (c = 0 → P k w') ∧ (c ≠ 0 → R c w') := by
  replace hk := hideit hk
  replace h0 := hideit h0
  replace hI := hideit hI
  replace hen := hideit hen
  replace hst := hideit hst
  go_enter Tryd.func32, Tryd.ntmps32
  go_upto_region 1 with (fail)
  refine wp_region_lit ?_
  refine xm [some (.slice (some a) k c), some (.int .i64 (k : Int)), some (.int .i64 0)] (by kernel_rfl) (by simp [xr, go_sem]) ?_
  simp only [xw, p0, p1, p2, p3]
  go_wp2
  go_loopw [8] (fun t X => ∃ i : Nat, i ≤ k ∧ t = .int .i64 (i : Int) ∧ P i X) (fun t _ => 2000 - (intOf t).toNat)
  case atStart => exact ⟨0, Nat.zero_le _, rfl, h0.out⟩
  case round =>
    obtain ⟨i, hik, rfl, hIi⟩ := hrel
    replace hIi := hideit hIi
    by_cases hlt : (i : Int) < (k : Int)
    · have hik2 : Hid (i < k) := by show i < k; omega
      have hel : Hid (wr.cell? (a.add i) = some (fnV g bd fr i)) := hideit (hI.out i wr hIi.out i hik2.out)
      have hik3 : Hid ((i : Int) < (k : Int)) := hideit hlt
      go_upto_region 2 with (fail)
      refine wp_region_lit ?_
      refine xm [some (.bool true)] (by kernel_rfl) (by simp [xr, go_sem, hik3.out]) ?_
      simp only [xw, p0, p1, p2, p3]
      go_upto_region 3 with (fail)
      refine wp_region_lit ?_
      refine xm [some (.pointer (some (a.add i))), some (fnV g bd fr i), some (fnV g bd fr i)] (by kernel_rfl) (by simp [xr, go_sem, hik2.out, hel.out]) ?_
      simp only [xw, p0, p1, p2, p3]
      go_upto_region 4 with (fail)
      refine wp_region_lit ?_
      refine wpList_run rfl (fnV g bd fr i) (by simp [go_sem]) ?_
      simp only [zp0, zp1, zp2, zp3]
      refine wpList_call rfl (f := g i) (args := bd i ++ fr i) (xcallV (g := g i) rfl rfl (hen.out i hik2.out)) ((hst.out i hik2.out wr hIi.out).mono ?_)
      rintro e w2 ⟨c', rfl, hc0, hc1⟩
      refine ⟨_, rfl, ?_⟩
      simp only [zp0, zp1, zp2, zp3]
      replace hc0 := hideit hc0
      replace hc1 := hideit hc1
      by_cases hc : c' = 0
      · subst hc
        have ek : IntKind.i64.wrap ((i : Int) + 1) = ((i + 1 : Nat) : Int) := by have := hk.out; rw [IntKind.wrap_i64]; omega
        go_wp2
        exact ⟨⟨i + 1, by omega, rfl, hc0.out rfl⟩, by have := hk.out; simp [intOf]; omega⟩
      · go_wp2
        go_ret
        exact ⟨c', rfl, fun h => absurd h hc, fun _ => hc1.out hc⟩
    · have hik2 : i = k := by omega
      subst hik2
      go_wp2
      go_ret
      exact ⟨0, rfl, fun _ => hIi.out, fun h => absurd rfl h⟩
end Go.Proofs.YtiakkclabgelfaaDoor
namespace Go.Proofs.YtiakkclabgelfaaDoor
open Go.RowKit Go.BigFrame Go.Maps
set_option linter.unusedVariables false
set_option maxRecDepth 20000
def jV (p fi co : Nat) (nu : BitVec 64) (us : Nat) (bg : Bool) (j : Nat) : Value := if j = 0 then .pointer (some ⟨p, 0, none⟩) else if j = 1 then .int .i64 (fi : Int) else if j = 2 then .int .i64 (co : Int) else if j = 3 then .int .u64 (nu.toNat : Int) else if j = 4 then .int .i64 (us : Int) else if j = 5 then .bool bg else .bool false
def moN (co : Nat) : Nat := min (co - 3) 64
def rmN (co us : Nat) (bg : Bool) : Nat := if bg = true then min (co - 3 - us) (moN co) else 0
set_option maxRecDepth 20000 in
set_option maxHeartbeats 4000000 in
theorem jrefusal (p fi co : Nat) (nu : BitVec 64) (us : Nat) (bg : Bool) (j : Nat) (w : World) (hJ : RowAt j 7 (jV p fi co nu us bg) w) : Calls Tryd.prog 21 #[.pointer (some ⟨j, 0, none⟩)] w fun e w' => e = .returned (.int .i64 0) ∧ w' = w := by
  replace hJ := hideit hJ
  go_enter Tryd.func21, Tryd.ntmps21
  go_upto_region 1 with (fail)
  refine wp_region_lit ?_
  refine xm [some (.pointer (some ⟨j, 0, none⟩)), some (.bool false)] (by kernel_rfl) (by simp [xr, go_sem]) ?_
  simp only [xw, p0, p1, p2, p3]
  go_upto_region 3 with (fail)
  refine wp_region_lit ?_
  have m1 : w.cell? ⟨j, 6, none⟩ = some (.bool false) := hJ.out.1 6 (by decide)
  refine xm [some (.pointer (some ⟨j, 0, none⟩)), some (.pointer (some ⟨j, 0, none⟩)), some (.pointer (some ⟨j, 6, none⟩)), some (.bool false)] (by kernel_rfl) (by simp [xr, go_sem, m1]) ?_
  simp only [xw, p0, p1, p2, p3]
  clear m1
  go_upto_region 5 with (fail)
  refine wp_region_lit ?_
  refine xm [some (.int .i64 0)] (by kernel_rfl) (by simp [xr, go_sem]) ?_
  simp only [xw, p0, p1, p2, p3]
  go_wp2
  go_ret
  exact ⟨rfl, rfl⟩
set_option maxRecDepth 20000 in
set_option maxHeartbeats 4000000 in
theorem jnumber (p fi co : Nat) (nu : BitVec 64) (us : Nat) (bg : Bool) (j : Nat) (w : World) (hJ : RowAt j 7 (jV p fi co nu us bg) w) : Calls Tryd.prog 11 #[.pointer (some ⟨j, 0, none⟩)] w fun e w' => e = .returned (.int .u64 (nu.toNat : Int)) ∧ w' = w := by
  replace hJ := hideit hJ
  go_enter Tryd.func11, Tryd.ntmps11
  go_upto_region 1 with (fail)
  refine wp_region_lit ?_
  refine xm [some (.pointer (some ⟨j, 0, none⟩)), some (.bool false)] (by kernel_rfl) (by simp [xr, go_sem]) ?_
  simp only [xw, p0, p1, p2, p3]
  go_upto_region 3 with (fail)
  refine wp_region_lit ?_
  have m1 : w.cell? ⟨j, 3, none⟩ = some (.int .u64 (nu.toNat : Int)) := hJ.out.1 3 (by decide)
  refine xm [some (.pointer (some ⟨j, 0, none⟩)), some (.pointer (some ⟨j, 0, none⟩)), some (.pointer (some ⟨j, 3, none⟩)), some (.int .u64 (nu.toNat : Int)), some (.int .u64 (nu.toNat : Int))] (by kernel_rfl) (by simp [xr, go_sem, m1]) ?_
  simp only [xw, p0, p1, p2, p3]
  clear m1
  go_wp2
  go_ret
  exact ⟨rfl, rfl⟩
set_option maxRecDepth 20000 in
set_option maxHeartbeats 4000000 in
theorem jused (p fi co : Nat) (nu : BitVec 64) (us : Nat) (bg : Bool) (j : Nat) (w : World) (hJ : RowAt j 7 (jV p fi co nu us bg) w) : Calls Tryd.prog 12 #[.pointer (some ⟨j, 0, none⟩)] w fun e w' => e = .returned (.int .i64 (us : Int)) ∧ w' = w := by
  replace hJ := hideit hJ
  go_enter Tryd.func12, Tryd.ntmps12
  go_upto_region 1 with (fail)
  refine wp_region_lit ?_
  refine xm [some (.pointer (some ⟨j, 0, none⟩)), some (.bool false)] (by kernel_rfl) (by simp [xr, go_sem]) ?_
  simp only [xw, p0, p1, p2, p3]
  go_upto_region 3 with (fail)
  refine wp_region_lit ?_
  have m1 : w.cell? ⟨j, 4, none⟩ = some (.int .i64 (us : Int)) := hJ.out.1 4 (by decide)
  refine xm [some (.pointer (some ⟨j, 0, none⟩)), some (.pointer (some ⟨j, 0, none⟩)), some (.pointer (some ⟨j, 4, none⟩)), some (.int .i64 (us : Int)), some (.int .i64 (us : Int))] (by kernel_rfl) (by simp [xr, go_sem, m1]) ?_
  simp only [xw, p0, p1, p2, p3]
  clear m1
  go_wp2
  go_ret
  exact ⟨rfl, rfl⟩
set_option maxRecDepth 20000 in
set_option maxHeartbeats 4000000 in
theorem jbegun (p fi co : Nat) (nu : BitVec 64) (us : Nat) (bg : Bool) (j : Nat) (w : World) (hJ : RowAt j 7 (jV p fi co nu us bg) w) : Calls Tryd.prog 13 #[.pointer (some ⟨j, 0, none⟩)] w fun e w' => e = .returned (.bool bg) ∧ w' = w := by
  replace hJ := hideit hJ
  go_enter Tryd.func13, Tryd.ntmps13
  go_upto_region 1 with (fail)
  refine wp_region_lit ?_
  have m1 : w.cell? ⟨j, 5, none⟩ = some (.bool bg) := hJ.out.1 5 (by decide)
  refine xm [some (.pointer (some ⟨j, 0, none⟩)), some (.bool true), some (.bool true), some (.pointer (some ⟨j, 0, none⟩)), some (.pointer (some ⟨j, 0, none⟩)), some (.pointer (some ⟨j, 5, none⟩)), some (.bool bg), some (.bool bg), some (.bool bg)] (by kernel_rfl) (by simp [xr, go_sem, m1]) ?_
  simp only [xw, p0, p1, p2, p3]
  clear m1
  go_wp2
  go_ret
  exact ⟨rfl, rfl⟩
set_option maxRecDepth 20000 in
set_option maxHeartbeats 4000000 in
theorem jmost (p fi co : Nat) (nu : BitVec 64) (us : Nat) (bg : Bool) (j : Nat) (w : World) (hJ : RowAt j 7 (jV p fi co nu us bg) w) (hc : 16 ≤ co ∧ co ≤ 256) : Calls Tryd.prog 8 #[.pointer (some ⟨j, 0, none⟩)] w fun e w' => e = .returned (.int .i64 ((moN co : Nat) : Int)) ∧ w' = w := by
  replace hJ := hideit hJ
  have z1 : IntKind.i64.wrap ((co : Int) - 3) = (co : Int) - 3 := by rw [IntKind.wrap_i64]; omega
  have z2 : (if (64 : Int) < (co : Int) - 3 then (64 : Int) else (co : Int) - 3) = ((moN co : Nat) : Int) := by unfold moN; split <;> omega
  go_enter Tryd.func8, Tryd.ntmps8
  go_upto_region 1 with (fail)
  refine wp_region_lit ?_
  refine xm [some (.pointer (some ⟨j, 0, none⟩)), some (.bool false)] (by kernel_rfl) (by simp [xr, go_sem]) ?_
  simp only [xw, p0, p1, p2, p3]
  go_upto_region 3 with (fail)
  refine wp_region_lit ?_
  have m1 : w.cell? ⟨j, 2, none⟩ = some (.int .i64 (co : Int)) := hJ.out.1 2 (by decide)
  refine xm [some (.pointer (some ⟨j, 0, none⟩)), some (.pointer (some ⟨j, 0, none⟩)), some (.pointer (some ⟨j, 2, none⟩)), some (.int .i64 (co : Int)), some (.int .i64 (co - 3 : Int)), some (.int .i64 ((moN co : Nat) : Int)), some (.int .i64 ((moN co : Nat) : Int))] (by kernel_rfl) (by simp [xr, go_sem, m1, z1, z2]) ?_
  simp only [xw, p0, p1, p2, p3]
  clear m1
  go_wp2
  go_ret
  exact ⟨rfl, rfl⟩
set_option maxRecDepth 20000 in
set_option maxHeartbeats 4000000 in
theorem jroom_no (p fi co : Nat) (nu : BitVec 64) (us : Nat) (j : Nat) (w : World) (hJ : RowAt j 7 (jV p fi co nu us false) w) : Calls Tryd.prog 7 #[.pointer (some ⟨j, 0, none⟩)] w fun e w' => e = .returned (.int .i64 0) ∧ w' = w := by
  replace hJ := hideit hJ
  go_enter Tryd.func7, Tryd.ntmps7
  go_upto_region 1 with (fail)
  refine wp_region_lit ?_
  have m1 : w.cell? ⟨j, 6, none⟩ = some (.bool false) := hJ.out.1 6 (by decide)
  have m2 : w.cell? ⟨j, 5, none⟩ = some (.bool false) := hJ.out.1 5 (by decide)
  refine xm [some (.pointer (some ⟨j, 0, none⟩)), some (.bool false), some (.bool false), some (.pointer (some ⟨j, 0, none⟩)), some (.pointer (some ⟨j, 0, none⟩)), some (.pointer (some ⟨j, 6, none⟩)), some (.bool false), some (.bool false), some (.bool false), some (.pointer (some ⟨j, 0, none⟩)), some (.pointer (some ⟨j, 0, none⟩)), some (.pointer (some ⟨j, 5, none⟩)), some (.bool false), some (.bool true), some (.bool true)] (by kernel_rfl) (by simp [xr, go_sem, m1, m2]) ?_
  simp only [xw, p0, p1, p2, p3]
  clear m1
  clear m2
  go_upto_region 2 with (fail)
  refine wp_region_lit ?_
  refine xm [some (.int .i64 0)] (by kernel_rfl) (by simp [xr, go_sem]) ?_
  simp only [xw, p0, p1, p2, p3]
  go_wp2
  go_ret
  exact ⟨rfl, rfl⟩
set_option maxRecDepth 20000 in
set_option maxHeartbeats 4000000 in
theorem jroom_yes (p fi co : Nat) (nu : BitVec 64) (us : Nat) (j : Nat) (w : World) (hJ : RowAt j 7 (jV p fi co nu us true) w) (hc : 16 ≤ co ∧ co ≤ 256) (hu : us ≤ 1000) : Calls Tryd.prog 7 #[.pointer (some ⟨j, 0, none⟩)] w fun e w' => e = .returned (.int .i64 ((rmN co us true : Nat) : Int)) ∧ Ext w w' := by
  replace hJ := hideit hJ
  have z1 : IntKind.i64.wrap ((co : Int) - 3) = (co : Int) - 3 := by rw [IntKind.wrap_i64]; omega
  obtain ⟨q, hq⟩ : ∃ q : Int, q = (co : Int) - 3 - (us : Int) := ⟨_, rfl⟩
  have z2 : IntKind.i64.wrap ((co : Int) - 3 - (us : Int)) = q := by rw [IntKind.wrap_i64]; omega
  obtain ⟨r, hr⟩ : ∃ r : Int, r = if ((moN co : Nat) : Int) < q then ((moN co : Nat) : Int) else q := ⟨_, rfl⟩
  have z3 : (if r > 0 then r else 0) = ((rmN co us true : Nat) : Int) := by
    rw [hr, hq]
    unfold rmN
    rw [if_pos rfl]
    unfold moN
    repeat' split
    all_goals omega
  replace z3 : Hid ((if 0 < r then r else 0) = ((rmN co us true : Nat) : Int)) := z3
  have z4 := hideit hr.symm
  replace z1 := hideit z1
  replace z2 := hideit z2
  clear hq hr
  have hE := hideit (Ext.refl w)
  go_enter Tryd.func7, Tryd.ntmps7
  go_upto_region 1 with (fail)
  refine wp_region_lit ?_
  have m1 : w.cell? ⟨j, 6, none⟩ = some (.bool false) := hJ.out.1 6 (by decide)
  have m2 : w.cell? ⟨j, 5, none⟩ = some (.bool true) := hJ.out.1 5 (by decide)
  refine xm [some (.pointer (some ⟨j, 0, none⟩)), some (.bool false), some (.bool false), some (.pointer (some ⟨j, 0, none⟩)), some (.pointer (some ⟨j, 0, none⟩)), some (.pointer (some ⟨j, 6, none⟩)), some (.bool false), some (.bool false), some (.bool false), some (.pointer (some ⟨j, 0, none⟩)), some (.pointer (some ⟨j, 0, none⟩)), some (.pointer (some ⟨j, 5, none⟩)), some (.bool true), some (.bool false), some (.bool false)] (by kernel_rfl) (by simp [xr, go_sem, m1, m2]) ?_
  simp only [xw, p0, p1, p2, p3]
  clear m1
  clear m2
  go_upto_region 3 with (fail)
  replace hJ := hideit hJ.out.drew
  replace hE := hideit (Ext.draw hE.out)
  refine wp_region_lad (fun X => Ext w.drew X) [(false, 0), (false, 1), (false, 2), (false, 3), (false, 4), (false, 5), (false, 6), (false, 7), (false, 8), (false, 9), (false, 10), (true, 11), (false, 12), (false, 13), (false, 14)] (by kernel_rfl) (by kernel_rfl) (by decide +kernel) (by decide +kernel) (by decide +kernel) (by decide +kernel) (Ext.refl _) ?_
  refine wpX_f _ (.pointer (some ⟨j, 0, none⟩)) rfl rfl (fun X _ => by simp [go_sem]) ?_
  simp only [List.getElem_toArray, List.getElem_cons_zero, Act.put, List.setIfInBounds_toArray, List.set_cons_zero, List.set_cons_succ]
  refine wpX_f _ (.pointer (some ⟨j, 0, none⟩)) rfl rfl (fun X _ => by simp [go_sem]) ?_
  simp only [zp4, zp5, zp6, zp0, zp1, zp2, zp3]
  refine wpX_f _ (.pointer (some ⟨j, 2, none⟩)) rfl rfl (fun X _ => by simp [go_sem]) ?_
  simp only [zp4, zp5, zp6, zp0, zp1, zp2, zp3]
  refine wpX_f _ (.int .i64 (co : Int)) rfl rfl (fun X hX => by have m3 : X.cell? ⟨j, 2, none⟩ = some (.int .i64 (co : Int)) := (hJ.out.carry hX).1 2 (by decide); simp [go_sem, m3]) ?_
  simp only [zp4, zp5, zp6, zp0, zp1, zp2, zp3]
  refine wpX_f _ (.int .i64 ((co : Int) - 3)) rfl rfl (fun X _ => by simp [go_sem, z1.out]) ?_
  simp only [zp4, zp5, zp6, zp0, zp1, zp2, zp3]
  refine wpX_f _ (.pointer (some ⟨j, 0, none⟩)) rfl rfl (fun X _ => by simp [go_sem]) ?_
  simp only [zp4, zp5, zp6, zp0, zp1, zp2, zp3]
  refine wpX_f _ (.pointer (some ⟨j, 0, none⟩)) rfl rfl (fun X _ => by simp [go_sem]) ?_
  simp only [zp4, zp5, zp6, zp0, zp1, zp2, zp3]
  refine wpX_f _ (.pointer (some ⟨j, 4, none⟩)) rfl rfl (fun X _ => by simp [go_sem]) ?_
  simp only [zp4, zp5, zp6, zp0, zp1, zp2, zp3]
  refine wpX_f _ (.int .i64 (us : Int)) rfl rfl (fun X hX => by have m4 : X.cell? ⟨j, 4, none⟩ = some (.int .i64 (us : Int)) := (hJ.out.carry hX).1 4 (by decide); simp [go_sem, m4]) ?_
  simp only [zp4, zp5, zp6, zp0, zp1, zp2, zp3]
  refine wpX_f _ (.int .i64 (q)) rfl rfl (fun X _ => by simp [go_sem, z2.out]) ?_
  simp only [zp4, zp5, zp6, zp0, zp1, zp2, zp3]
  refine wpX_f _ (.pointer (some ⟨j, 0, none⟩)) rfl rfl (fun X _ => by simp [go_sem]) ?_
  simp only [zp4, zp5, zp6, zp0, zp1, zp2, zp3]
  refine wpX_call _ rfl rfl (by simp [go_sem]) ((jmost p fi co nu us true j w.drew hJ.out hc).mono ?_)
  rintro e y5 ⟨rfl, h6⟩
  replace h6 : Ext w.drew y5 := by rw [h6]; exact Ext.refl _
  refine ⟨_, rfl, fun X => Ext y5 X, fun X hX => Ext.trans h6 hX, Ext.refl _, ?_⟩
  simp only [zp4, zp5, zp6, zp0, zp1, zp2, zp3]
  replace hJ := hideit (hJ.out.carry h6)
  replace hE := hideit (Ext.trans hE.out (h6))
  clear h6
  refine wpX_f _ (.int .i64 (r)) rfl rfl (fun X _ => by simp [go_sem, z4.out]) ?_
  simp only [zp4, zp5, zp6, zp0, zp1, zp2, zp3]
  refine wpX_f _ (.int .i64 ((rmN co us true : Nat) : Int)) rfl rfl (fun X _ => by simp [go_sem, z3.out]) ?_
  simp only [zp4, zp5, zp6, zp0, zp1, zp2, zp3]
  refine wpX_f _ (.int .i64 ((rmN co us true : Nat) : Int)) rfl rfl (fun X _ => by simp [go_sem]) ?_
  simp only [zp4, zp5, zp6, zp0, zp1, zp2, zp3]
  refine wpX_nil ?_
  go_wp2
  go_ret
  exact ⟨rfl, hE.out⟩
set_option maxRecDepth 20000 in
set_option maxHeartbeats 4000000 in
theorem jbegin_yes (p fi co : Nat) (nu : BitVec 64) (us : Nat) (j : Nat) (w : World) (hJ : RowAt j 7 (jV p fi co nu us true) w) : Calls Tryd.prog 28 #[.pointer (some ⟨j, 0, none⟩)] w fun e w' => e = .returned (.int .u64 (nu.toNat : Int)) ∧ w' = w := by
  replace hJ := hideit hJ
  go_enter Tryd.func28, Tryd.ntmps28
  go_upto_region 1 with (fail)
  refine wp_region_lit ?_
  have m1 : w.cell? ⟨j, 5, none⟩ = some (.bool true) := hJ.out.1 5 (by decide)
  refine xm [some (.pointer (some ⟨j, 0, none⟩)), some (.pointer (some ⟨j, 0, none⟩)), some (.pointer (some ⟨j, 5, none⟩)), some (.bool true)] (by kernel_rfl) (by simp [xr, go_sem, m1]) ?_
  simp only [xw, p0, p1, p2, p3]
  clear m1
  go_upto_region 2 with (fail)
  refine wp_region_lit ?_
  have m2 : w.cell? ⟨j, 3, none⟩ = some (.int .u64 (nu.toNat : Int)) := hJ.out.1 3 (by decide)
  refine xm [some (.pointer (some ⟨j, 0, none⟩)), some (.pointer (some ⟨j, 0, none⟩)), some (.pointer (some ⟨j, 3, none⟩)), some (.int .u64 (nu.toNat : Int)), some (.int .u64 (nu.toNat : Int))] (by kernel_rfl) (by simp [xr, go_sem, m2]) ?_
  simp only [xw, p0, p1, p2, p3]
  clear m2
  go_wp2
  go_ret
  exact ⟨rfl, rfl⟩
set_option maxRecDepth 20000 in
set_option maxHeartbeats 4000000 in
theorem jbegin_no (p fi co : Nat) (nu : BitVec 64) (us : Nat) (j : Nat) (w : World) (hJ : RowAt j 7 (jV p fi co nu us false) w) (hc : 16 ≤ co ∧ co ≤ 256) (h1 : nu.toNat ≠ 0) (h2 : nu.toNat + co < 18446744073709551616) : Calls Tryd.prog 28 #[.pointer (some ⟨j, 0, none⟩)] w fun e w' => e = .returned (.int .u64 ((nu + BitVec.ofNat 64 co).toNat : Int)) ∧ w' = w := by
  replace hJ := hideit hJ
  have z1 : IntKind.u64.wrap (co : Int) = (co : Int) := by rw [IntKind.wrap_u64]; omega
  have z2 : ¬ nu.toNat = 0 := h1
  have z3 : IntKind.u64.wrap (18446744073709551615 - (co : Int)) = 18446744073709551615 - (co : Int) := by rw [IntKind.wrap_u64]; omega
  have z4 : ¬ 18446744073709551615 - (co : Int) < (nu.toNat : Int) := by omega
  have z5 : IntKind.u64.wrap ((nu.toNat : Int) + (co : Int)) = ((nu + BitVec.ofNat 64 co).toNat : Int) := by
    rw [IntKind.wrap_u64, BitVec.toNat_add, BitVec.toNat_ofNat, Nat.mod_eq_of_lt (show co < 2 ^ 64 by omega)]
    omega
  go_enter Tryd.func28, Tryd.ntmps28
  go_upto_region 1 with (fail)
  refine wp_region_lit ?_
  have m1 : w.cell? ⟨j, 5, none⟩ = some (.bool false) := hJ.out.1 5 (by decide)
  refine xm [some (.pointer (some ⟨j, 0, none⟩)), some (.pointer (some ⟨j, 0, none⟩)), some (.pointer (some ⟨j, 5, none⟩)), some (.bool false)] (by kernel_rfl) (by simp [xr, go_sem, m1]) ?_
  simp only [xw, p0, p1, p2, p3]
  clear m1
  go_upto_region 3 with (fail)
  refine wp_region_lit ?_
  have m2 : w.cell? ⟨j, 2, none⟩ = some (.int .i64 (co : Int)) := hJ.out.1 2 (by decide)
  refine xm [some (.pointer (some ⟨j, 0, none⟩)), some (.pointer (some ⟨j, 0, none⟩)), some (.pointer (some ⟨j, 2, none⟩)), some (.int .i64 (co : Int)), some (.int .u64 (co : Int)), some (.int .u64 (co : Int))] (by kernel_rfl) (by simp [xr, go_sem, m2, z1]) ?_
  simp only [xw, p0, p1, p2, p3]
  clear m2
  go_upto_region 4 with (fail)
  refine wp_region_lit ?_
  have m3 : w.cell? ⟨j, 3, none⟩ = some (.int .u64 (nu.toNat : Int)) := hJ.out.1 3 (by decide)
  refine xm [some (.pointer (some ⟨j, 0, none⟩)), some (.pointer (some ⟨j, 0, none⟩)), some (.pointer (some ⟨j, 3, none⟩)), some (.int .u64 (nu.toNat : Int)), some (.bool false), some (.bool false), some (.pointer (some ⟨j, 0, none⟩)), some (.pointer (some ⟨j, 0, none⟩)), some (.pointer (some ⟨j, 3, none⟩)), some (.int .u64 (nu.toNat : Int)), some (.int .u64 (co : Int)), some (.int .u64 (18446744073709551615 - (co : Int))), some (.bool false), some (.bool false)] (by kernel_rfl) (by simp [xr, go_sem, m3, z2, z3, z4]) ?_
  simp only [xw, p0, p1, p2, p3]
  clear m3
  go_upto_region 6 with (fail)
  refine wp_region_lit ?_
  have m5 : w.cell? ⟨j, 3, none⟩ = some (.int .u64 (nu.toNat : Int)) := hJ.out.1 3 (by decide)
  refine xm [some (.pointer (some ⟨j, 0, none⟩)), some (.pointer (some ⟨j, 0, none⟩)), some (.pointer (some ⟨j, 3, none⟩)), some (.int .u64 (nu.toNat : Int)), some (.int .u64 (co : Int)), some (.int .u64 ((nu + BitVec.ofNat 64 co).toNat : Int)), some (.int .u64 ((nu + BitVec.ofNat 64 co).toNat : Int))] (by kernel_rfl) (by simp [xr, go_sem, m5, z5]) ?_
  simp only [xw, p0, p1, p2, p3]
  clear m5
  go_wp2
  go_ret
  exact ⟨rfl, rfl⟩
end Go.Proofs.YtiakkclabgelfaaDoor
