/-
  RekeyStart.
-/
import Derived.Test.YtcipkfalnjgghaaMd19
namespace Go.Proofs.Ytcipkfalnjgghaa
open Go.RowKit Go.BigFrame Go.Maps
set_option linter.unusedVariables false
set_option maxRecDepth 20000 in
set_option maxHeartbeats 4000000 in
theorem s2_last (h : Hd) (sb pb : Nat) (ep : Int) (r : Rt) (op : Bool) (sl : Int) (p bm : Nat) (w : World) (hS : RowAt p 64 (mdV h sb pb ep r op sl) w) (hm : RowAt bm 1 (fun _ => .pointer (some ⟨p, 0, none⟩)) w) (he : 1 ≤ ep ∧ ep ≤ 4294967295) (hq : ep = 4294967295) : Calls Try.prog 50 #[.pointer (some ⟨bm, 0, none⟩)] w fun e w' => e = .returned (.int .i64 2) ∧ w' = w := by
  have hcv : Hid (IntKind.u64.wrap 4294967295 = 4294967295) := by show IntKind.u64.wrap 4294967295 = 4294967295; decide
  replace hS := hideit hS
  replace hm := hideit hm
  replace hq := hideit hq
  go_enter Try.func50, Try.ntmps50
  go_upto_region 1 with (fail)
  refine wp_region_lit ?_
  have m1 : w.cell? ⟨bm, 0, none⟩ = some (.pointer (some ⟨p, 0, none⟩)) := hm.out.1 0 (by decide)
  have m2 : w.cell? ⟨p, 26, none⟩ = some (.int .i64 (ep)) := hS.out.1 26 (by decide)
  refine xm [some (.pointer (some ⟨p, 0, none⟩)), some (.pointer (some ⟨p, 0, none⟩)), some (.pointer (some ⟨p, 26, none⟩)), some (.int .i64 (ep)), some (.int .u64 (ep)), some (.bool true)] (by kernel_rfl) (by simp [xr, go_sem, m1, m2, hcv.out, hq.out]) ?_
  simp only [xw, p0, p1, p2, p3]
  clear m1
  clear m2
  refine wpList_call rfl (by simp [go_sem]) ((refuse_any true 2 w).mono ?_)
  rintro e yy ⟨rfl, hyy⟩
  refine ⟨_, rfl, ?_⟩
  simp only [Act.put, List.setIfInBounds_toArray, List.set_cons_zero, List.set_cons_succ]
  replace hyy := hyy.symm
  subst hyy
  refine xm [some (.int .i64 2)] (by kernel_rfl) (by simp [xr, go_sem]) ?_
  simp only [xw, p0, p1, p2, p3]
  go_wp2
  go_ret
  exact ⟨rfl, rfl⟩
set_option maxRecDepth 20000 in
set_option maxHeartbeats 4000000 in
theorem s2_more (h : Hd) (sb pb : Nat) (ep : Int) (r : Rt) (op : Bool) (sl : Int) (p bm : Nat) (w : World) (hS : RowAt p 64 (mdV h sb pb ep r op sl) w) (hm : RowAt bm 1 (fun _ => .pointer (some ⟨p, 0, none⟩)) w) (he : 1 ≤ ep ∧ ep ≤ 4294967295) (hq : ¬ ep = 4294967295) : Calls Try.prog 50 #[.pointer (some ⟨bm, 0, none⟩)] w fun e w' => e = .returned (.int .i64 0) ∧ w' = w := by
  have hcv : Hid (IntKind.u64.wrap ep = ep) := by show IntKind.u64.wrap ep = ep; rw [IntKind.wrap_u64]; omega
  replace hS := hideit hS
  replace hm := hideit hm
  replace hq := hideit hq
  go_enter Try.func50, Try.ntmps50
  go_upto_region 1 with (fail)
  refine wp_region_lit ?_
  have m1 : w.cell? ⟨bm, 0, none⟩ = some (.pointer (some ⟨p, 0, none⟩)) := hm.out.1 0 (by decide)
  have m2 : w.cell? ⟨p, 26, none⟩ = some (.int .i64 (ep)) := hS.out.1 26 (by decide)
  refine xm [some (.pointer (some ⟨p, 0, none⟩)), some (.pointer (some ⟨p, 0, none⟩)), some (.pointer (some ⟨p, 26, none⟩)), some (.int .i64 (ep)), some (.int .u64 (ep)), some (.bool false)] (by kernel_rfl) (by simp [xr, go_sem, m1, m2, hcv.out, hq.out]) ?_
  simp only [xw, p0, p1, p2, p3]
  clear m1
  clear m2
  refine wpList_call rfl (by simp [go_sem]) ((refuse_any false 2 w).mono ?_)
  rintro e yy ⟨rfl, hyy⟩
  refine ⟨_, rfl, ?_⟩
  simp only [Act.put, List.setIfInBounds_toArray, List.set_cons_zero, List.set_cons_succ]
  replace hyy := hyy.symm
  subst hyy
  refine xm [some (.int .i64 0)] (by kernel_rfl) (by simp [xr, go_sem]) ?_
  simp only [xw, p0, p1, p2, p3]
  go_wp2
  go_ret
  exact ⟨rfl, rfl⟩
theorem md_start (h : Hd) (sb pb : Nat) (ep : Int) (r : Rt) (op : Bool) (sl : Int) (j : Nat) : (if j = 26 then Value.int .i64 (ep + 1) else (fun j => if j = 28 then Value.bool true else mdV h sb pb ep r op sl j) j) = mdV h sb pb (ep + 1) { r with rk := true } op sl j := by
  unfold mdV rtv
  by_cases h26 : j = 26
  · subst h26; rfl
  · by_cases h28 : j = 28
    · subst h28; rfl
    · rw [if_neg h26]
      simp only [if_neg h28]
      by_cases h1 : j < 24
      · simp [h1]
      · by_cases h2 : j < 62
        · have h3 : ¬ j - 27 = 1 := by omega
          by_cases h4 : j = 24
          · simp [h4]
          · by_cases h5 : j = 25
            · simp [h5]
            · simp [h1, h2, h26, h3, h4, h5]
        · have h4 : ¬ j = 24 := by omega
          have h5 : ¬ j = 25 := by omega
          simp [h1, h2, h26, h4, h5]
set_option maxRecDepth 20000 in
set_option maxHeartbeats 4000000 in
theorem s3_any (h : Hd) (sb pb : Nat) (ep : Int) (r : Rt) (op : Bool) (sl : Int) (p bm : Nat) (w : World) (hS : RowAt p 64 (mdV h sb pb ep r op sl) w) (hm : RowAt bm 1 (fun _ => .pointer (some ⟨p, 0, none⟩)) w) (nbm : bm ≠ p) (he : 1 ≤ ep ∧ ep ≤ 4294967295) : Calls Try.prog 51 #[.pointer (some ⟨bm, 0, none⟩)] w fun e w' => e = .returned (.int .i64 0) ∧ Keeps (fun i => i = p) w w' ∧ RowAt p 64 (mdV h sb pb (ep + 1) { r with rk := true } op sl) w' := by
  have ew : IntKind.i64.wrap (ep + 1) = ep + 1 := by rw [IntKind.wrap_i64]; omega
  replace hS := hideit hS
  replace hm := hideit hm
  replace nbm := hideit nbm
  have hE := hideit (Keeps.refl (fun i => i = p) w)
  go_enter Try.func51, Try.ntmps51
  go_upto_region 1 with (fail)
  refine wp_region_lit ?_
  have m1 : w.cell? ⟨bm, 0, none⟩ = some (.pointer (some ⟨p, 0, none⟩)) := hm.out.1 0 (by decide)
  refine xm [some (.pointer (some ⟨p, 0, none⟩)), some (.pointer (some ⟨p, 0, none⟩)), some (.pointer (some ⟨p, 27, none⟩)), some (.pointer (some ⟨p, 28, none⟩))] (by kernel_rfl) (by simp [xr, go_sem, m1]) ?_
  simp only [xw, p0, p1, p2, p3]
  clear m1
  have M0 : w.cell? ⟨p, 28, none⟩ = some (.bool r.rk) := hS.out.1 28 (by decide)
  have M1 : w.frozen? ⟨p, 28, none⟩ = false := hS.out.2.1 28 (by decide)
  have N0 := hideit (hS.out.set 28 (.bool true))
  have N1 := hideit (hm.out.other ⟨p, 28, none⟩ (.bool true) (Ne.symm (nbm.out)))
  have NE := hideit (hE.out.setCell (p := ⟨p, 28, none⟩) (.inl rfl) (.bool true))
  refine xst rfl (w.setCell ⟨p, 28, none⟩ (.bool true)) (by simp [go_sem, M0, M1]) ?_
  simp only [Act.put]
  generalize w.setCell ⟨p, 28, none⟩ (.bool true) = x2 at N0 N1 NE ⊢
  clear M0 M1
  replace hS := N0
  replace hm := N1
  replace hE := NE
  clear N0 N1 NE
  go_upto_region 2 with (fail)
  refine wp_region_lit ?_
  have m3 : x2.cell? ⟨bm, 0, none⟩ = some (.pointer (some ⟨p, 0, none⟩)) := hm.out.1 0 (by decide)
  have m4 : x2.cell? ⟨p, 26, none⟩ = some (.int .i64 (ep)) := hS.out.1 26 (by decide)
  refine xm [some (.pointer (some ⟨p, 0, none⟩)), some (.pointer (some ⟨p, 0, none⟩)), some (.pointer (some ⟨p, 26, none⟩)), some (.int .i64 (ep)), some (.int .i64 (ep + 1)), some (.pointer (some ⟨p, 0, none⟩)), some (.pointer (some ⟨p, 26, none⟩))] (by kernel_rfl) (by simp [xr, go_sem, m3, m4, ew]) ?_
  simp only [xw, p0, p1, p2, p3]
  clear m3
  clear m4
  have M0 : x2.cell? ⟨p, 26, none⟩ = some (.int .i64 (ep)) := hS.out.1 26 (by decide)
  have M1 : x2.frozen? ⟨p, 26, none⟩ = false := hS.out.2.1 26 (by decide)
  have N0 := hideit (hS.out.set 26 (.int .i64 (ep + 1)))
  have N1 := hideit (hm.out.other ⟨p, 26, none⟩ (.int .i64 (ep + 1)) (Ne.symm (nbm.out)))
  have NE := hideit (hE.out.setCell (p := ⟨p, 26, none⟩) (.inl rfl) (.int .i64 (ep + 1)))
  refine xst rfl (x2.setCell ⟨p, 26, none⟩ (.int .i64 (ep + 1))) (by simp [go_sem, M0, M1]) ?_
  simp only [Act.put]
  generalize x2.setCell ⟨p, 26, none⟩ (.int .i64 (ep + 1)) = x5 at N0 N1 NE ⊢
  clear M0 M1
  replace N0 := hideit (N0.out.congr (g' := mdV h sb pb (ep + 1) { r with rk := true } op sl) (fun j hj => md_start h sb pb ep r op sl j))
  replace hS := N0
  replace hm := N1
  replace hE := NE
  clear N0 N1 NE
  go_upto_region 3 with (fail)
  refine wp_region_lit ?_
  refine xm [some (.int .i64 0)] (by kernel_rfl) (by simp [xr, go_sem]) ?_
  simp only [xw, p0, p1, p2, p3]
  go_wp2
  go_ret
  exact ⟨rfl, hE.out, hS.out⟩
def stS (s : MSt) : MSt := { s with ep := s.ep + 1, r := { s.r with rk := true, ct := s.r.ct + 1#64 } }
/-- RekeyStart tells .. -/
def stP (s s' : MSt) (c : Int) : Prop := (c = 230 ∧ s.r.rk = true ∧ s' = s) ∨ (c = 2 ∧ s.r.rk = false ∧ s.ep = 4294967295 ∧ s' = s) ∨ (c = 0 ∧ s.r.rk = false ∧ ¬ s.ep = 4294967295 ∧ s' = stS s)
set_option maxRecDepth 20000 in
set_option maxHeartbeats 4000000 in
theorem start_do {F : Nat → Prop} {p C : Nat} {M : MLoc} {x : World} (h : Hd) (S : Int → Option (Nat → BitVec 8)) (P : Int → Option (Nat × (Nat → BitVec 8))) (ep : Int) (r : Rt) (sl : Int) (hM : MdM F p ⟨h, S, P, ep, r, true, sl⟩ C M x) (bm bs : Nat)
    (hm : RowAt bm 1 (fun _ => .pointer (some ⟨p, 0, none⟩)) x) (hB : RowAt bs 4 (fnV (fun i => [40, 50, 51, 38].getD i 0) (fun i => [#[.pointer (some ⟨p, 0, none⟩)], #[], #[], #[.pointer (some ⟨p, 0, none⟩)]].getD i #[]) (fun i => [#[], #[.pointer (some ⟨bm, 0, none⟩)], #[.pointer (some ⟨bm, 0, none⟩)], #[]].getD i #[])) x) (nF : ¬ F bs) (nm : ¬ F bm) :
    Calls Try.prog 33 #[.pointer (some ⟨p, 0, none⟩), .slice (some ⟨bs, 0, none⟩) 4 4] x fun e w' => ∃ c s', e = .returned (.int .i64 c) ∧ stP ⟨h, S, P, ep, r, true, sl⟩ s' c ∧ MdM F p s' C M w' ∧ Keeps F x w' := by
  have hS := hM.st
  have hep := hM.eps
  have hpf : ∀ i, i = p → F i := fun i hi => by rw [hi]; exact hM.fp
  have hw1 := rrek_any h M.sb M.pb ep r true sl p x hS
  cases hr : r.rk with
  | true =>
    rw [hr, if_pos rfl] at hw1
    refine (do_refuse h M.sb M.pb ep r sl p bs 4 0 230 (fun i => [40, 50, 51, 38].getD i 0) (fun i => [#[.pointer (some ⟨p, 0, none⟩)], #[], #[], #[.pointer (some ⟨p, 0, none⟩)]].getD i #[]) (fun i => [#[], #[.pointer (some ⟨bm, 0, none⟩)], #[.pointer (some ⟨bm, 0, none⟩)], #[]].getD i #[]) x hS (by decide) hB (by decide) (by decide) (fun i hi args X => by rcases (by omega : i = 0 ∨ i = 1 ∨ i = 2 ∨ i = 3) with rfl | rfl | rfl | rfl <;> simp [go_sem]) (fun i hi => ?_) ?_).mono ?_
    · exact absurd hi (Nat.not_lt_zero _)
    · exact hw1
    · rintro e w' ⟨q1, rfl⟩
      exact ⟨230, ⟨h, S, P, ep, r, true, sl⟩, q1, .inl ⟨rfl, hr, rfl⟩, hM, Keeps.refl _ _⟩
  | false =>
    rw [hr, if_neg (by decide)] at hw1
    by_cases hq : ep = 4294967295
    · have hw2 := s2_last h M.sb M.pb ep r true sl p bm x hS hm hep hq
      refine (do_refuse h M.sb M.pb ep r sl p bs 4 1 2 (fun i => [40, 50, 51, 38].getD i 0) (fun i => [#[.pointer (some ⟨p, 0, none⟩)], #[], #[], #[.pointer (some ⟨p, 0, none⟩)]].getD i #[]) (fun i => [#[], #[.pointer (some ⟨bm, 0, none⟩)], #[.pointer (some ⟨bm, 0, none⟩)], #[]].getD i #[]) x hS (by decide) hB (by decide) (by decide) (fun i hi args X => by rcases (by omega : i = 0 ∨ i = 1 ∨ i = 2 ∨ i = 3) with rfl | rfl | rfl | rfl <;> simp [go_sem]) (fun i hi => ?_) ?_).mono ?_
      · obtain rfl : i = 0 := by omega
        exact hw1
      · exact hw2
      · rintro e w' ⟨q1, rfl⟩
        exact ⟨2, ⟨h, S, P, ep, r, true, sl⟩, q1, .inr (.inl ⟨rfl, hr, hq, rfl⟩), hM, Keeps.refl _ _⟩
    · have hw2 := s2_more h M.sb M.pb ep r true sl p bm x hS hm hep hq
      refine (do_pass h M.sb M.pb ep r sl p bs 4 2 (fun i => [40, 50, 51, 38].getD i 0) (fun i => [#[.pointer (some ⟨p, 0, none⟩)], #[], #[], #[.pointer (some ⟨p, 0, none⟩)]].getD i #[]) (fun i => [#[], #[.pointer (some ⟨bm, 0, none⟩)], #[.pointer (some ⟨bm, 0, none⟩)], #[]].getD i #[]) x hS (by decide) hB rfl (fun W => Keeps (fun i => i = p) x W ∧ RowAt p 64 (mdV h M.sb M.pb (ep + 1) { r with rk := true } true sl) W)
        (fun W => Keeps (fun i => i = p) x W ∧ RowAt p 64 (mdV h M.sb M.pb (ep + 1) { r with rk := true, ct := r.ct + 1#64 } true sl) W)
        (fun W ⟨hK, _⟩ => hB.keep hK fun e => nF (hpf bs e)) (fun W ⟨hK, _⟩ => hB.keep hK fun e => nF (hpf bs e))
        (fun i hi args X => by rcases (by omega : i = 0 ∨ i = 1 ∨ i = 2 ∨ i = 3) with rfl | rfl | rfl | rfl <;> simp [go_sem]) (fun i hi => ?_) ?_ (fun W hW => ?_)).mono ?_
      · rcases (by omega : i = 0 ∨ i = 1) with rfl | rfl
        · exact hw1
        · exact hw2
      · exact (s3_any h M.sb M.pb ep r true sl p bm x hS hm (fun e => nm (hpf bm e)) hep).mono fun e w' ⟨q1, q2, q3⟩ => ⟨q1, q2, q3⟩
      · exact (count_any h M.sb M.pb (ep + 1) { r with rk := true } true sl p W hW.2).mono fun e w' ⟨q1, q2, q3⟩ => ⟨q1, hW.1.trans q2 fun i hi => .inl hi, q3⟩
      · rintro e w' ⟨q1, q4, q5⟩
        have hep1 : 1 ≤ ep ∧ ep ≤ 4294967295 := hep
        exact ⟨0, stS ⟨h, S, P, ep, r, true, sl⟩, q1, .inr (.inr ⟨rfl, hr, hq, rfl⟩), hM.step q4 hpf (stS ⟨h, S, P, ep, r, true, sl⟩) rfl rfl (show 1 ≤ ep + 1 ∧ ep + 1 ≤ 4294967295 by omega) q5 (hM.mpS.keep q4 fun e => hM.ps e.symm) (Nat.le_refl C) hM.kS (fun e => hM.pm e.symm), q4.mono hpf⟩
set_option maxRecDepth 20000 in
set_option maxHeartbeats 4000000 in
theorem start_open {F : Nat → Prop} {p C : Nat} {M : MLoc} {w : World} (h : Hd) (S : Int → Option (Nat → BitVec 8)) (P : Int → Option (Nat × (Nat → BitVec 8))) (ep : Int) (r : Rt) (sl : Int) (hM : MdM F p ⟨h, S, P, ep, r, true, sl⟩ C M w) :
    Calls Try.prog 15 #[.pointer (some ⟨p, 0, none⟩)] w fun e w' => ∃ c, e = .returned (.int .i64 c) ∧ ∃ s', stP ⟨h, S, P, ep, r, true, sl⟩ s' c ∧ MdM F p s' C M w' ∧ Keeps F w w' := by
  have hlt := hideit hM.lt
  replace hM := hideit hM
  have hE := hideit (Ext.refl w)
  go_enter Try.func15, Try.ntmps15
  go_upto_region 0 with (fail)
  refine wp_region_lit ?_
  have A0 := hideit (row1_new w (.pointer (some ⟨p, 0, none⟩)) 26)
  have XB : Ext w (w.alloc (.cells #[.pointer (some ⟨p, 0, none⟩)] 26)) := (Below.refl _ _).alloc (Nat.le_refl _) _
  have L0 := hideit (hM.out.ext XB)
  have AE := hideit (Ext.trans hE.out (XB))
  have AB := hideit (hE.out.size)
  clear XB
  refine wpList_to rfl (.pointer (some ⟨w.heap.size, 0, none⟩)) (w.alloc (.cells #[.pointer (some ⟨p, 0, none⟩)] 26)) (by simp [go_sem]) ?_
  simp only [Act.put, List.setIfInBounds_toArray, List.set_cons_zero, List.set_cons_succ]
  generalize w.alloc (.cells #[.pointer (some ⟨p, 0, none⟩)] 26) = x2 at A0 L0 AE ⊢
  obtain ⟨z1, ez1⟩ : ∃ b, b = w.heap.size := ⟨_, rfl⟩
  have ABz1 : Hid (w.heap.size ≤ z1) := by rw [ez1]; exact AB.out
  clear AB
  rw [← ez1] at A0  ⊢
  clear ez1
  have Hz1 := A0
  clear A0
  replace hM := L0
  clear L0
  replace hE := AE
  clear AE
  refine xm [some (.int .i64 0)] (by kernel_rfl) (by simp [xr, go_sem]) ?_
  simp only [xw, p0, p1, p2, p3]
  go_upto_region 1 with (fail)
  refine wp_region_lit ?_
  have m3 : x2.cell? ⟨z1, 0, none⟩ = some (.pointer (some ⟨p, 0, none⟩)) := Hz1.out.1 0 (by decide)
  refine xm [some (.pointer (some ⟨p, 0, none⟩)), some (.pointer (some ⟨p, 0, none⟩)), some (.func (.func 40) #[.pointer (some ⟨p, 0, none⟩)] #[]), some (.func (.func 50) #[] #[.pointer (some ⟨z1, 0, none⟩)]), some (.func (.func 51) #[] #[.pointer (some ⟨z1, 0, none⟩)]), some (.pointer (some ⟨p, 0, none⟩)), some (.func (.func 38) #[.pointer (some ⟨p, 0, none⟩)] #[])] (by kernel_rfl) (by simp [xr, go_sem, m3]) ?_
  simp only [xw, p0, p1, p2, p3]
  clear m3
  have A0 := hideit (RowAt.newOf x2 4 (fnV (fun i => [40, 50, 51, 38].getD i 0) (fun i => [#[.pointer (some ⟨p, 0, none⟩)], #[], #[], #[.pointer (some ⟨p, 0, none⟩)]].getD i #[]) (fun i => [#[], #[.pointer (some ⟨z1, 0, none⟩)], #[.pointer (some ⟨z1, 0, none⟩)], #[]].getD i #[])) 47 #[.func (.func 40) #[.pointer (some ⟨p, 0, none⟩)] #[], .func (.func 50) #[] #[.pointer (some ⟨z1, 0, none⟩)], .func (.func 51) #[] #[.pointer (some ⟨z1, 0, none⟩)], .func (.func 38) #[.pointer (some ⟨p, 0, none⟩)] #[]] (fun j hj => by rcases (by omega : j = 0 ∨ j = 1 ∨ j = 2 ∨ j = 3) with rfl | rfl | rfl | rfl <;> rfl))
  have XB : Ext x2 (x2.alloc (.cells #[.func (.func 40) #[.pointer (some ⟨p, 0, none⟩)] #[], .func (.func 50) #[] #[.pointer (some ⟨z1, 0, none⟩)], .func (.func 51) #[] #[.pointer (some ⟨z1, 0, none⟩)], .func (.func 38) #[.pointer (some ⟨p, 0, none⟩)] #[]] 47)) := (Below.refl _ _).alloc (Nat.le_refl _) _
  have A1 := hideit (Hz1.out.carry XB)
  have L0 := hideit (hM.out.ext XB)
  have AE := hideit (Ext.trans hE.out (XB))
  have AB := hideit (hE.out.size)
  have D0 : Hid (z1 ≠ x2.heap.size) := Nat.ne_of_lt Hz1.out.2.2
  clear XB
  refine wpList_to rfl (.slice (some ⟨x2.heap.size, 0, none⟩) 4 4) (x2.alloc (.cells #[.func (.func 40) #[.pointer (some ⟨p, 0, none⟩)] #[], .func (.func 50) #[] #[.pointer (some ⟨z1, 0, none⟩)], .func (.func 51) #[] #[.pointer (some ⟨z1, 0, none⟩)], .func (.func 38) #[.pointer (some ⟨p, 0, none⟩)] #[]] 47)) (by simp [go_sem]) ?_
  simp only [Act.put, List.setIfInBounds_toArray, List.set_cons_zero, List.set_cons_succ]
  generalize x2.alloc (.cells #[.func (.func 40) #[.pointer (some ⟨p, 0, none⟩)] #[], .func (.func 50) #[] #[.pointer (some ⟨z1, 0, none⟩)], .func (.func 51) #[] #[.pointer (some ⟨z1, 0, none⟩)], .func (.func 38) #[.pointer (some ⟨p, 0, none⟩)] #[]] 47) = x7 at A0 A1 L0 AE ⊢
  obtain ⟨z6, ez6⟩ : ∃ b, b = x2.heap.size := ⟨_, rfl⟩
  have ABz6 : Hid (w.heap.size ≤ z6) := by rw [ez6]; exact AB.out
  clear AB
  rw [← ez6] at A0 D0 ⊢
  clear ez6
  have Hz6 := A0
  clear A0
  replace Hz1 := A1
  clear A1
  replace hM := L0
  clear L0
  replace hE := AE
  clear AE
  have Dz6_0 := D0
  clear D0
  have nF : ¬ F z6 := fun e => by have := hlt.out z6 e; have := ABz6.out; omega
  have nM : ¬ F z1 := fun e => by have := hlt.out z1 e; have := ABz1.out; omega
  have kd := hideit (start_do h S P ep r sl hM.out z1 z6 Hz1.out Hz6.out nF nM)
  refine wpList_call rfl (by simp [go_sem]) ((kd.out).mono ?_)
  rintro e y9 ⟨c, s9, rfl, hv9, hM9, hK9⟩
  refine ⟨_, rfl, ?_⟩
  simp only [Act.put, List.setIfInBounds_toArray, List.set_cons_zero, List.set_cons_succ]
  replace hM9 := hideit hM9
  replace hv9 := hideit hv9
  replace hK9 := hideit ((Keeps.of_ext hE.out).trans hK9 fun i hi => .inl hi)
  clear kd hM nF nM
  refine xm [some (.int .i64 (c))] (by kernel_rfl) (by simp [xr, go_sem]) ?_
  simp only [xw, p0, p1, p2, p3]
  go_wp2
  go_ret
  exact ⟨c, rfl, s9, hv9.out, hM9.out, hK9.out⟩
set_option maxRecDepth 20000 in
set_option maxHeartbeats 4000000 in
theorem start_shut {F : Nat → Prop} {p C : Nat} {M : MLoc} {w : World} (h : Hd) (S : Int → Option (Nat → BitVec 8)) (P : Int → Option (Nat × (Nat → BitVec 8))) (ep : Int) (r : Rt) (sl : Int) (hM : MdM F p ⟨h, S, P, ep, r, false, sl⟩ C M w) :
    Calls Try.prog 15 #[.pointer (some ⟨p, 0, none⟩)] w fun e w' => e = .returned (.int .i64 6) ∧ Ext w w' := by
  replace hM := hideit hM
  have hE := hideit (Ext.refl w)
  go_enter Try.func15, Try.ntmps15
  go_upto_region 0 with (fail)
  refine wp_region_lit ?_
  have A0 := hideit (row1_new w (.pointer (some ⟨p, 0, none⟩)) 26)
  have XB : Ext w (w.alloc (.cells #[.pointer (some ⟨p, 0, none⟩)] 26)) := (Below.refl _ _).alloc (Nat.le_refl _) _
  have L0 := hideit (hM.out.ext XB)
  have AE := hideit (Ext.trans hE.out (XB))
  have AB := hideit (hE.out.size)
  clear XB
  refine wpList_to rfl (.pointer (some ⟨w.heap.size, 0, none⟩)) (w.alloc (.cells #[.pointer (some ⟨p, 0, none⟩)] 26)) (by simp [go_sem]) ?_
  simp only [Act.put, List.setIfInBounds_toArray, List.set_cons_zero, List.set_cons_succ]
  generalize w.alloc (.cells #[.pointer (some ⟨p, 0, none⟩)] 26) = x2 at A0 L0 AE ⊢
  obtain ⟨z1, ez1⟩ : ∃ b, b = w.heap.size := ⟨_, rfl⟩
  have ABz1 : Hid (w.heap.size ≤ z1) := by rw [ez1]; exact AB.out
  clear AB
  rw [← ez1] at A0  ⊢
  clear ez1
  have Hz1 := A0
  clear A0
  replace hM := L0
  clear L0
  replace hE := AE
  clear AE
  refine xm [some (.int .i64 0)] (by kernel_rfl) (by simp [xr, go_sem]) ?_
  simp only [xw, p0, p1, p2, p3]
  go_upto_region 1 with (fail)
  refine wp_region_lit ?_
  have m3 : x2.cell? ⟨z1, 0, none⟩ = some (.pointer (some ⟨p, 0, none⟩)) := Hz1.out.1 0 (by decide)
  refine xm [some (.pointer (some ⟨p, 0, none⟩)), some (.pointer (some ⟨p, 0, none⟩)), some (.func (.func 40) #[.pointer (some ⟨p, 0, none⟩)] #[]), some (.func (.func 50) #[] #[.pointer (some ⟨z1, 0, none⟩)]), some (.func (.func 51) #[] #[.pointer (some ⟨z1, 0, none⟩)]), some (.pointer (some ⟨p, 0, none⟩)), some (.func (.func 38) #[.pointer (some ⟨p, 0, none⟩)] #[])] (by kernel_rfl) (by simp [xr, go_sem, m3]) ?_
  simp only [xw, p0, p1, p2, p3]
  clear m3
  have A0 := hideit (RowAt.newOf x2 4 (fnV (fun i => [40, 50, 51, 38].getD i 0) (fun i => [#[.pointer (some ⟨p, 0, none⟩)], #[], #[], #[.pointer (some ⟨p, 0, none⟩)]].getD i #[]) (fun i => [#[], #[.pointer (some ⟨z1, 0, none⟩)], #[.pointer (some ⟨z1, 0, none⟩)], #[]].getD i #[])) 47 #[.func (.func 40) #[.pointer (some ⟨p, 0, none⟩)] #[], .func (.func 50) #[] #[.pointer (some ⟨z1, 0, none⟩)], .func (.func 51) #[] #[.pointer (some ⟨z1, 0, none⟩)], .func (.func 38) #[.pointer (some ⟨p, 0, none⟩)] #[]] (fun j hj => by rcases (by omega : j = 0 ∨ j = 1 ∨ j = 2 ∨ j = 3) with rfl | rfl | rfl | rfl <;> rfl))
  have XB : Ext x2 (x2.alloc (.cells #[.func (.func 40) #[.pointer (some ⟨p, 0, none⟩)] #[], .func (.func 50) #[] #[.pointer (some ⟨z1, 0, none⟩)], .func (.func 51) #[] #[.pointer (some ⟨z1, 0, none⟩)], .func (.func 38) #[.pointer (some ⟨p, 0, none⟩)] #[]] 47)) := (Below.refl _ _).alloc (Nat.le_refl _) _
  have A1 := hideit (Hz1.out.carry XB)
  have L0 := hideit (hM.out.ext XB)
  have AE := hideit (Ext.trans hE.out (XB))
  have AB := hideit (hE.out.size)
  have D0 : Hid (z1 ≠ x2.heap.size) := Nat.ne_of_lt Hz1.out.2.2
  clear XB
  refine wpList_to rfl (.slice (some ⟨x2.heap.size, 0, none⟩) 4 4) (x2.alloc (.cells #[.func (.func 40) #[.pointer (some ⟨p, 0, none⟩)] #[], .func (.func 50) #[] #[.pointer (some ⟨z1, 0, none⟩)], .func (.func 51) #[] #[.pointer (some ⟨z1, 0, none⟩)], .func (.func 38) #[.pointer (some ⟨p, 0, none⟩)] #[]] 47)) (by simp [go_sem]) ?_
  simp only [Act.put, List.setIfInBounds_toArray, List.set_cons_zero, List.set_cons_succ]
  generalize x2.alloc (.cells #[.func (.func 40) #[.pointer (some ⟨p, 0, none⟩)] #[], .func (.func 50) #[] #[.pointer (some ⟨z1, 0, none⟩)], .func (.func 51) #[] #[.pointer (some ⟨z1, 0, none⟩)], .func (.func 38) #[.pointer (some ⟨p, 0, none⟩)] #[]] 47) = x7 at A0 A1 L0 AE ⊢
  obtain ⟨z6, ez6⟩ : ∃ b, b = x2.heap.size := ⟨_, rfl⟩
  have ABz6 : Hid (w.heap.size ≤ z6) := by rw [ez6]; exact AB.out
  clear AB
  rw [← ez6] at A0 D0 ⊢
  clear ez6
  have Hz6 := A0
  clear A0
  replace Hz1 := A1
  clear A1
  replace hM := L0
  clear L0
  replace hE := AE
  clear AE
  have Dz6_0 := D0
  clear D0
  refine wpList_call rfl (by simp [go_sem]) ((do_shut h M.sb M.pb ep r sl p (.slice (some ⟨z6, 0, none⟩) 4 4) x7 hM.out.st).mono ?_)
  rintro e yy ⟨rfl, hyy⟩
  refine ⟨_, rfl, ?_⟩
  simp only [Act.put, List.setIfInBounds_toArray, List.set_cons_zero, List.set_cons_succ]
  replace hyy := hyy.symm
  subst hyy
  refine xm [some (.int .i64 6)] (by kernel_rfl) (by simp [xr, go_sem]) ?_
  simp only [xw, p0, p1, p2, p3]
  go_wp2
  go_ret
  exact ⟨rfl, hE.out⟩
end Go.Proofs.Ytcipkfalnjgghaa
