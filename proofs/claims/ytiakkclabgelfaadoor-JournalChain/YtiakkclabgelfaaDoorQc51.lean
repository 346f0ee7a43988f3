/-
  A block made of some bytes, again and again. What must come of every journal.
-/
import Derived.Test.YtiakkclabgelfaaDoorQc1
import Derived.Test.YtiakkclabgelfaaDoorQc32
import Derived.Test.YtiakkclabgelfaaDoorQc16
import Derived.Test.YtiakkclabgelfaaDoorQc48
import Derived.Test.YtiakkclabgelfaaDoorQc49
import Derived.Test.YtiakkclabgelfaaDoorQc45
namespace Go.Proofs.YtiakkclabgelfaaDoor
set_option maxRecDepth 20000
open Go.RowKit Go.BigFrame Go.Maps
set_option maxRecDepth 20000 in
set_option maxHeartbeats 4000000 in
theorem block_zero (ov : Option Addr) (cap : Nat) (f : Nat → BitVec 8) (w : World) : Calls Tryd.prog 18 #[.slice ov 0 cap] w fun e w' => ∃ v', e = .returned v' ∧ OwnB w.heap.size 5 v' 512 (yv (blkF 0 f)) w' ∧ Ext w w' := by
  go_enter Tryd.func18, Tryd.ntmps18
  go_upto_region 1 with (fail)
  refine wp_region_lit ?_
  refine wpList_made w Tryd.underlying39 info5D rfl (.const (.int .i64 512)) (.const (.int .i64 512)) rfl 512 rfl rfl (by decide) ?_
  intro w1 hO1 hX1
  simp only [zp0, zp1, zp2, zp3]
  refine wpList_run rfl (.slice (some ⟨w.heap.size, 0, none⟩) 512 512) (by simp [go_sem]) ?_
  simp only [zp0, zp1, zp2, zp3]
  have hO2 : Hid (OwnB w.heap.size 5 (.slice (some ⟨w.heap.size, 0, none⟩) 512 512) 512 (yv (blkF 0 f)) w1) := hO1.congr fun j hj => by unfold yv blkF; rw [if_pos rfl]
  replace hX1 := hideit hX1
  clear hO1
  go_wp2
  refine wp_loop_rounds 1 ?_
  rw [rounds_succ]
  go_wp2
  go_ret
  exact ⟨_, rfl, hO2.out, hX1.out⟩
set_option maxRecDepth 20000 in
set_option maxHeartbeats 4000000 in
theorem block_pos (v : Value) (l : Nat) (f : Nat → BitVec 8) (w : World) (hb : BV v l f w) (hl0' : 0 < l) (hl : l ≤ maxLen) : Calls Tryd.prog 18 #[v] w fun e w' => ∃ v', e = .returned v' ∧ OwnB w.heap.size 5 v' 512 (yv (blkF l f)) w' ∧ Ext w w' := by
  obtain ⟨ov, cap, rfl⟩ := hb.form
  replace hb := hideit hb
  have hl9 : l ≤ 9223372036854775807 := by unfold maxLen at hl; exact hl
  clear hl
  go_enter Tryd.func18, Tryd.ntmps18
  go_upto_region 1 with (fail)
  refine wp_region_lit ?_
  refine wpList_made w Tryd.underlying39 info5D rfl (.const (.int .i64 512)) (.const (.int .i64 512)) rfl 512 rfl rfl (by decide) ?_
  intro w1 hO1 hX1
  simp only [zp0, zp1, zp2, zp3]
  refine wpList_run rfl (.slice (some ⟨w.heap.size, 0, none⟩) 512 512) (by simp [go_sem]) ?_
  simp only [zp0, zp1, zp2, zp3]
  by_cases hl0 : l = 0
  · exact absurd hl0 (by omega)
  · have hO2 : OwnB w.heap.size 5 (.slice (some ⟨w.heap.size, 0, none⟩) 512 512) 512 (yv (blkK l f 0)) w1 := hO1.congr fun j hj => by unfold yv blkK; rw [if_neg (by omega)]
    obtain ⟨a, rfl, hlie⟩ : ∃ a, ov = some a ∧ LieAt a l (yv f) w := by
      rcases hb.out with ⟨h1, h0⟩ | ⟨a, cap', h1, _, h3⟩
      · omega
      · injection h1 with e1 e2 e3
        exact ⟨a, e1, h3⟩
    have l0 : (0 : Int) < (l : Int) := by omega
    replace hX1 := hideit hX1
    replace hO2 := hideit hO2
    replace hlie := hideit hlie
    clear hO1 hb
    go_wp2
    go_loopw [4] (fun iv X => ∃ i : Nat, i ≤ 512 ∧ iv = .int .i64 (i : Int) ∧ OwnB w.heap.size 5 (.slice (some ⟨w.heap.size, 0, none⟩) 512 512) 512 (yv (blkK l f i)) X ∧ Ext w X) (fun iv _ => 512 - (intOf iv).toNat)
    case atStart => exact ⟨0, Nat.zero_le _, rfl, hO2.out, hX1.out⟩
    case round =>
      obtain ⟨i, hi, rfl, hO, hE⟩ := hrel
      by_cases hlt : i < 512
      · have i0 : (0 : Int) ≤ (i : Int) := by omega
        have i1 : (i : Int) < 512 := by omega
        obtain ⟨q, hq⟩ : ∃ q, q = i % l := ⟨_, rfl⟩
        have hql : q < l := by rw [hq]; exact Nat.mod_lt _ (by omega)
        have q1 : (q : Int) < (l : Int) := by omega
        have hrem : Int.tmod (i : Int) (l : Int) = (q : Int) := by rw [hq, Int.tmod_eq_emod_of_nonneg (by omega)]; exact (Int.natCast_emod i l).symm
        have es := (hlie.out.carry hE).1 q hql
        rw [show yv f q = .int .u8 ((f q).toNat : Int) from rfl] at es
        obtain ⟨_, _, hv1, _, _, _, hR⟩ := hO.lies (by decide)
        injection hv1 with e1 e2 e3
        injection e1 with e1
        injection e1 with e1
        subst e1
        have e4 := hR.1 i hlt
        have z4 := hR.2.1 i hlt
        have hO3 : Hid (OwnB w.heap.size 5 (.slice (some ⟨w.heap.size, 0, none⟩) 512 512) 512 (yv (blkK l f (i + 1))) (wr.setCell ⟨w.heap.size, i, none⟩ (.int .u8 ((f q).toNat : Int)))) := (hO.set rfl i hlt (.int .u8 ((f q).toNat : Int))).congr fun j hj => by
          unfold yv blkK
          by_cases e : j = i
          · subst e
            rw [if_pos rfl, if_pos (by omega)]
            unfold blkF
            rw [if_neg hl0, hq]
          · rw [if_neg e]
            by_cases h2 : j < i
            · rw [if_pos h2, if_pos (by omega)]
            · rw [if_neg h2, if_neg (by omega)]
        have hE3 : Hid (Ext w (wr.setCell ⟨w.heap.size, i, none⟩ (.int .u8 ((f q).toNat : Int)))) := Below.setCell hE (Nat.le_refl _) _
        have l9 : ¬ l = 0 := hl0
        replace hq := hideit hq
        clear hO hE hR
        go_upto_region 5 with (fail)
        refine wp_region_lit ?_
        refine wpList_run rfl (.slice (some ⟨w.heap.size, 0, none⟩) 512 512) (by simp [go_sem]) ?_
        simp only [zp0, zp1, zp2, zp3]
        refine wpList_run rfl (.int .i64 (i : Int)) (by simp [go_sem]) ?_
        simp only [zp0, zp1, zp2, zp3]
        refine wpList_run rfl (.slice (some a) l cap) (by simp [go_sem]) ?_
        simp only [zp0, zp1, zp2, zp3]
        refine wpList_run rfl (.int .i64 (i : Int)) (by simp [go_sem]) ?_
        simp only [zp0, zp1, zp2, zp3]
        refine wpList_run rfl (.slice (some a) l cap) (by simp [go_sem]) ?_
        simp only [zp0, zp1, zp2, zp3]
        refine wpList_run rfl (.int .i64 (l : Int)) (by simp [go_sem]) ?_
        simp only [zp0, zp1, zp2, zp3]
        refine wpList_run rfl (.int .i64 (q : Int)) (by simp [go_sem, l9, hrem]) ?_
        simp only [zp0, zp1, zp2, zp3]
        refine wpList_run rfl (.pointer (some (a.add q))) (by simp [go_sem, q1]) ?_
        simp only [zp0, zp1, zp2, zp3]
        refine wpList_run rfl (.int .u8 ((f q).toNat : Int)) (by simp [go_sem, es]) ?_
        simp only [zp0, zp1, zp2, zp3]
        refine wpList_run rfl (.pointer (some ⟨w.heap.size, i, none⟩)) (by simp [go_sem, i1]) ?_
        simp only [zp0, zp1, zp2, zp3]
        go_wp2
        exact ⟨⟨i + 1, by omega, by go_num, hO3.out, hE3.out⟩, by simp [intOf]; omega⟩
      · obtain rfl : i = 512 := by omega
        have hO3 : Hid (OwnB w.heap.size 5 (.slice (some ⟨w.heap.size, 0, none⟩) 512 512) 512 (yv (blkF l f)) wr) := hO.congr fun j hj => by unfold yv blkK; rw [if_pos hj]
        replace hE := hideit hE
        clear hO
        go_wp2
        go_ret
        exact ⟨_, rfl, hO3.out, hE.out⟩
theorem blk14_any (v : Value) (l : Nat) (f : Nat → BitVec 8) (w : World) (hb : BV v l f w) (hl : l ≤ maxLen) : Calls Tryd.prog 18 #[v] w fun e w' => ∃ v', e = .returned v' ∧ OwnB w.heap.size 5 v' 512 (yv (blkF l f)) w' ∧ Ext w w' := by
  rcases Nat.eq_zero_or_pos l with h0 | h0
  · subst h0
    obtain ⟨o, cap, rfl⟩ := hb.form
    exact block_zero o cap f w
  · exact block_pos v l f w hb h0 hl
end Go.Proofs.YtiakkclabgelfaaDoor
namespace Go.Proofs.YtiakkclabgelfaaDoor
open Go.RowKit Go.BigFrame Go.Maps
set_option linter.unusedVariables false
set_option maxRecDepth 20000
theorem open_sl (p fi co m : Nat) (nu : BitVec 64) (F : Nat → Prop) (N : Nat) (A D : Nat → Nat → BitVec 8) (C : Nat) (w : World) (hD : DV F p N A D C w) (hT : TabC w) (h1 : 16 ≤ co) (h2 : co ≤ 256) (h3 : fi + co ≤ N) (hm : m + 1 = co) (hC : C ≤ 4398046511104) (hnu : nu ≠ 0#64) (hmk : D fi = markF nu) (K : Nat) (tn : Nat → Nat) (tb : Nat → Nat → Int) (tl : Nat → Nat → Nat) (tf : Nat → Nat → Nat → BitVec 8) (hch : ∀ k, k < K → okT (nuK nu k) (tn k) (tb k) (tl k) (tf k) ∧ ¬ fgL fi co N (tn k) (tb k) ∧ ∀ i, i < tn k + 2 → D (fi + 1 + (ofN tn k + i)) = trF (nuK nu k) (tmK (tl k) (tf k) (tn k)) (tn k) (tb k) (tf k) i) (hle : ofN tn K ≤ m) (hend : ¬ (hasP (nuK nu K) (m - ofN tn K) (fun _ => 512) (fun i => D (fi + 1 + (ofN tn K + i))) ∧ isTx (nuK nu K) (fun _ => 512) (fun i => D (fi + 1 + (ofN tn K + i))))) (M O : Nat) (nx : BitVec 64) (eM : smN tn K = M) (eO : ofN tn K = O) (eN : nuK nu K = nx) : Calls Tryd.prog 16 #[.pointer (some ⟨p, 0, none⟩), .int .i64 (fi : Int), .int .i64 (co : Int)] w fun e w' => ∃ j o c us', e = .returned (.tuple #[.pointer (some ⟨j, 0, none⟩), .slice o M c, .int .i64 0]) ∧ RDs w.heap.size (.slice o M c) M (caN 0 tn tb K) us' (caN 0 tn tl K) (caN (fun _ => 0) tn tf K) w' ∧ JR j p fi co nx O false F N A D C w' ∧ w.heap.size ≤ j ∧ Ext w w' := by
  subst eM eO eN
  refine (open_ok p fi co m nu F N A D C w hD hT h1 h2 h3 hm hC hnu hmk K tn tb tl tf hch hle hend).mono ?_
  rintro e w' ⟨j, v, h, ⟨us', hR⟩, hJ, hj, hE⟩
  obtain ⟨o, c, rfl⟩ := hR.form
  exact ⟨j, o, c, us', h, hR, hJ, hj, hE⟩
theorem JR.dvk {j p fi co us N C C' : Nat} {nu : BitVec 64} {bg : Bool} {F : Nat → Prop} {A D A' D' : Nat → Nat → BitVec 8} {X Y : World} (h : JR j p fi co nu us bg F N A D C X) (d : DV F p N A' D' C' Y) (k : Keeps F X Y) : JR j p fi co nu us bg F N A' D' C' Y :=
  ⟨h.row.keep k h.nf, isB_keep h.nb h.row.2.2 k h.nf, h.nf, d, h.co1, h.co2, h.ar⟩
theorem blk_s (v : Value) (c : BitVec 8) (w : World) (hb : BV v 1 (fun _ => c) w) : Calls Tryd.prog 18 #[v] w fun e w' => ∃ z cp, e = .returned (.slice (some ⟨z, 0, none⟩) 512 cp) ∧ 512 ≤ cp ∧ RowAt z 512 (yv (fun _ => c)) w' ∧ Ext w w' := by
  refine (blk14_any v 1 (fun _ => c) w hb (by decide)).mono ?_
  rintro e w' ⟨v', h, hO, hE⟩
  obtain ⟨z, cp, rfl, _, hcp, _, hZ⟩ := hO.lies (by decide)
  exact ⟨z, cp, h, hcp, hZ, hE⟩
theorem rl_one (X : World) (z cp : Nat) (c : BitVec 8) (b : Int) (hZ : RowAt z 512 (yv (fun _ => c)) X) (hcp : 512 ≤ cp) : RLs (.slice (some ⟨X.heap.size, 0, none⟩) 1 1) 1 (fun _ => b) (fun _ => .slice (some ⟨z, 0, none⟩) 512 cp) (fun _ => 512) (fun _ _ => c) (X.alloc (.cells #[.int .i64 b, .slice (some ⟨z, 0, none⟩) 512 cp] 47)) := by
  have kk : Ext X (X.alloc (.cells #[.int .i64 b, .slice (some ⟨z, 0, none⟩) 512 cp] 47)) := (Below.refl _ _).alloc (Nat.le_refl _) _
  have hr : RowAt X.heap.size 2 (rdC (fun _ => b) (fun _ => .slice (some ⟨z, 0, none⟩) 512 cp)) (X.alloc (.cells #[.int .i64 b, .slice (some ⟨z, 0, none⟩) 512 cp] 47)) := RowAt.newOf X 2 _ 47 _ fun j hj => by rcases (by omega : j = 0 ∨ j = 1) with rfl | rfl <;> rfl
  refine ⟨.inr ⟨_, 1, rfl, Nat.le_refl _, fun i hi => ?_⟩, fun i hi => ⟨.inr ⟨_, cp, rfl, hcp, fun i hi => ?_⟩, by show 512 ≤ 140737488355328; decide⟩⟩
  · rw [addr0]
    exact hr.1 i hi
  · rw [addr0]
    exact (hZ.carry kk).1 i hi
theorem nf20 : ¬ fgL 2 16 30 1 (fun _ => 20) := fun ⟨_, _, h⟩ => absurd (show fgB 2 16 30 20 = true from h) (by decide)
theorem nf21 : ¬ fgL 2 16 30 1 (fun _ => 21) := fun ⟨_, _, h⟩ => absurd (show fgB 2 16 30 21 = true from h) (by decide)
theorem room67 (p j : Nat) (w : World) (hJ : RowAt j 7 (jV p 2 16 19#64 6 true) w) : Calls Tryd.prog 7 #[.pointer (some ⟨j, 0, none⟩)] w fun e w' => e = .returned (.int .i64 7) ∧ Ext w w' := jroom_yes p 2 16 19#64 6 j w hJ (by decide) (by decide)
theorem most16 (p j : Nat) (w : World) (hJ : RowAt j 7 (jV p 2 16 18#64 3 false) w) : Calls Tryd.prog 8 #[.pointer (some ⟨j, 0, none⟩)] w fun e w' => e = .returned (.int .i64 13) ∧ w' = w := jmost p 2 16 18#64 3 false j w hJ (by decide)
theorem keep_ext {F : Nat → Prop} {w X Y : World} (h : Ext w X) (k : Keeps F X Y) (hF : ∀ i, F i → w.heap.size ≤ i) : Ext w Y := below_ext h (Nat.le_refl _) (k.below (Below.size h) hF)
set_option maxRecDepth 20000 in
set_option maxHeartbeats 4000000 in
theorem lives_any (w : World) (hT : TabC w) : Calls Tryd.prog 5 #[] w fun e w' => e = .returned (.bool true) ∧ Ext w w' := by
  replace hT := hideit hT
  have hE := hideit (Ext.refl w)
  go_enter Tryd.func5, Tryd.ntmps5
  go_upto_region 1 with (fail)
  refine wp_region_lit ?_
  refine wpList_call rfl (by simp [go_sem]) ((dv_new 30 (by decide) (by decide) w).mono ?_)
  rintro e y1 ⟨p, F, rfl, hD, hX, hF⟩
  refine ⟨_, rfl, ?_⟩
  simp only [zp0, zp1, zp2, zp3]
  replace hE := hideit (Ext.trans hE.out (hX))
  replace hD := hideit hD
  replace hF : Hid (∀ i, F i → w.heap.size ≤ i) := hideit hF
  clear hX
  refine xm [some (.tuple #[.pointer (some ⟨p, 0, none⟩), .int .i64 0]), some (.pointer (some ⟨p, 0, none⟩)), some (.int .i64 0), some (.pointer (some ⟨p, 0, none⟩)), some (.int .i64 0)] (by kernel_rfl) (by simp [xr, go_sem]) ?_
  simp only [xw, p0, p1, p2, p3]
  go_upto_region 2 with (fail)
  refine wp_region_lit ?_
  refine xm [some (.pointer (some ⟨p, 0, none⟩))] (by kernel_rfl) (by simp [xr, go_sem]) ?_
  simp only [xw, p0, p1, p2, p3]
  refine wpList_call rfl (by simp [go_sem]) ((init_ok p 2 16 30 F (fun _ _ => 0#8) (fun _ _ => 0#8) 0 y1 hD.out (hT.out.ext hE.out) (by decide) (by decide) (by decide) (by decide)).mono ?_)
  rintro e y2 ⟨rfl, F1, hD1, hK1, hF1⟩
  refine ⟨_, rfl, ?_⟩
  simp only [zp0, zp1, zp2, zp3]
  have hs := Below.size hE.out
  replace hD1 : Hid (DV F1 p 30 lx0 lx0 1 y2) := hideit hD1
  replace hF1 : Hid (∀ i, F1 i → w.heap.size ≤ i) := fun i hi => by
    rcases hF1 i hi with h | h
    · exact hF.out i h
    · exact Nat.le_trans hs h
  replace hE := hideit (keep_ext hE.out hK1 hF.out)
  clear hD hK1 hF hs
  refine xm [some (.int .i64 0)] (by kernel_rfl) (by simp [xr, go_sem]) ?_
  simp only [xw, p0, p1, p2, p3]
  have h0E := hE
  go_upto_region 3 with (fail)
  refine wp_region_lit ?_
  refine xm [some (.pointer (some ⟨p, 0, none⟩))] (by kernel_rfl) (by simp [xr, go_sem]) ?_
  simp only [xw, p0, p1, p2, p3]
  refine wpList_call rfl (by simp [go_sem]) ((open_sl p 2 16 15 1#64 F1 30 lx0 lx0 1 y2 hD1.out (hT.out.ext hE.out) (by decide) (by decide) (by decide) rfl (by decide) (by decide) rfl 0 (fun _ => 1) (fun _ _ => 0) (fun _ _ => 0) (fun _ _ _ => 0#8) (fun k hk => absurd hk (Nat.not_lt_zero _)) (by decide) lx_blank 0 0 1#64 rfl rfl (nuK_zero _)).mono ?_)
  rintro e y3 ⟨j, o3, c3, u3, rfl, _, hJ, hj, hX⟩
  refine ⟨_, rfl, ?_⟩
  simp only [zp0, zp1, zp2, zp3]
  replace hE := hideit (Ext.trans hE.out (hX))
  replace hj : Hid (w.heap.size ≤ j) := hideit (Nat.le_trans (Below.size h0E.out) hj)
  have hR := hideit hJ.row
  replace hJ := hideit hJ
  clear hX h0E hD1
  refine xm [some (.tuple #[.pointer (some ⟨j, 0, none⟩), .slice o3 0 c3, .int .i64 0]), some (.pointer (some ⟨j, 0, none⟩)), some (.slice o3 0 c3), some (.int .i64 0), some (.pointer (some ⟨j, 0, none⟩)), some (.slice o3 0 c3), some (.int .i64 0)] (by kernel_rfl) (by simp [xr, go_sem]) ?_
  simp only [xw, p0, p1, p2, p3]
  go_upto_region 4 with (fail)
  refine wp_region_lit ?_
  refine xm [some (.int .i64 0), some (.bool false), some (.bool false), some (.int .i64 0), some (.bool false), some (.bool false), some (.bool false), some (.int .i64 0), some (.bool false), some (.bool false), some (.bool false), some (.pointer (some ⟨j, 0, none⟩)), some (.bool false), some (.bool false), some (.bool false), some (.slice o3 0 c3), some (.int .i64 0), some (.bool false), some (.bool false)] (by kernel_rfl) (by simp [xr, go_sem]) ?_
  simp only [xw, p0, p1, p2, p3]
  go_upto_region 6 with (fail)
  refine wp_region_lit ?_
  refine xm [some (.pointer (some ⟨j, 0, none⟩))] (by kernel_rfl) (by simp [xr, go_sem]) ?_
  simp only [xw, p0, p1, p2, p3]
  refine wpList_to rfl (.slice (some ⟨y3.heap.size, 0, none⟩) 1 1) (y3.alloc (.cells #[.int .u8 120] 5)) (by simp [go_sem]) ?_
  simp only [zp0, zp1, zp2, zp3]
  obtain ⟨x2, hr, hB, hX⟩ := constB y3 #[.int .u8 120] 1 (fun _ => 120#8) (fun j hj => by rcases (by omega : j = 0) with rfl <;> rfl)
  refine wpList_to rfl (.slice (some ⟨y3.heap.size, 0, none⟩) 1 1) x2 (by simp [go_sem, hr]) ?_
  simp only [zp0, zp1, zp2, zp3]
  obtain ⟨a1, ea1⟩ : ∃ a : Addr, a = ⟨y3.heap.size, 0, none⟩ := ⟨_, rfl⟩
  rw [← ea1] at hB ⊢
  clear ea1 hr
  have hb6 := hideit hB
  clear hB
  replace hR := hideit (hR.out.carry hX)
  replace hJ := hideit (hJ.out.ext hX)
  replace hE := hideit (Ext.trans hE.out (hX))
  clear hX
  refine wpList_call rfl (by simp [go_sem]) ((blk_s (.slice (some a1) 1 1) 120#8 x2 hb6.out).mono ?_)
  rintro e k6 ⟨zz, cp, rfl, hcp, hZ, hX⟩
  refine ⟨_, rfl, ?_⟩
  simp only [zp0, zp1, zp2, zp3]
  replace hR := hideit (hR.out.carry hX)
  replace hJ := hideit (hJ.out.ext hX)
  replace hE := hideit (Ext.trans hE.out (hX))
  clear hb6 hX
  refine xm [some (.agg #[.int .i64 20, .slice (some ⟨zz, 0, none⟩) 512 cp])] (by kernel_rfl) (by simp [xr, go_sem]) ?_
  simp only [xw, p0, p1, p2, p3]
  have hRL := hideit (rl_one k6 zz cp 120#8 20 hZ hcp)
  have kk : Ext k6 (k6.alloc (.cells #[.int .i64 20, .slice (some ⟨zz, 0, none⟩) 512 cp] 47)) := (Below.refl _ _).alloc (Nat.le_refl _) _
  refine wpList_to rfl (.slice (some ⟨k6.heap.size, 0, none⟩) 1 1) (k6.alloc (.cells #[.int .i64 20, .slice (some ⟨zz, 0, none⟩) 512 cp] 47)) (by simp [go_sem]) ?_
  simp only [zp0, zp1, zp2, zp3]
  obtain ⟨vb, hvb⟩ : ∃ b, b = k6.heap.size := ⟨_, rfl⟩
  rw [← hvb] at hRL ⊢
  generalize k6.alloc (.cells #[.int .i64 20, .slice (some ⟨zz, 0, none⟩) 512 cp] 47) = q6 at hRL kk ⊢
  replace hR := hideit (hR.out.carry kk)
  replace hJ := hideit (hJ.out.ext kk)
  replace hE := hideit (Ext.trans hE.out kk)
  clear kk hZ hvb hcp
  refine wpList_call rfl (by simp [go_sem]) ((append_full j p 2 16 1#64 0 false F1 30 lx0 lx0 1 (.slice (some ⟨vb, 0, none⟩) 1 1) 1 (fun _ => 20) (fun _ => .slice (some ⟨zz, 0, none⟩) 512 cp) (fun _ => 512) (fun _ _ => 120#8) q6 hJ.out hRL.out (by decide) (fun _ _ => by unfold okI; decide) (hT.out.ext hE.out) (okT_one _ (by decide) 20 (by decide) (by decide) _ like120) nf20 (by decide) (by decide) (by decide)).mono ?_)
  rintro e y6 ⟨rfl, hX⟩
  refine ⟨_, rfl, ?_⟩
  simp only [zp0, zp1, zp2, zp3]
  replace hR := hideit (hR.out.carry hX)
  replace hJ := hideit (hJ.out.ext hX)
  replace hE := hideit (Ext.trans hE.out (hX))
  clear hX hRL
  refine xm [some (.int .i64 2)] (by kernel_rfl) (by simp [xr, go_sem]) ?_
  simp only [xw, p0, p1, p2, p3]
  go_upto_region 7 with (fail)
  refine wp_region_lit ?_
  refine xm [some (.pointer (some ⟨j, 0, none⟩))] (by kernel_rfl) (by simp [xr, go_sem]) ?_
  simp only [xw, p0, p1, p2, p3]
  refine wpList_call rfl (by simp [go_sem]) ((reset_ok j p 2 16 1#64 0 false F1 30 lx0 lx0 1 y6 hJ.out (hT.out.ext hE.out) 17#64 (.inr ⟨rfl, by decide, by decide, by decide⟩) (by decide) (by decide)).mono ?_)
  rintro e y7 ⟨rfl, F2, hJ2, hK2, hF2⟩
  refine ⟨_, rfl, ?_⟩
  simp only [zp0, zp1, zp2, zp3]
  have hs := Below.size hE.out
  replace hF2 : Hid (∀ i, F2 i → w.heap.size ≤ i) := fun i hi => by
    rcases hF2 i hi with h | h
    · exact hF1.out i h
    · exact Nat.le_trans hs h
  replace hJ2 : JR j p 2 16 17#64 0 true F2 30 lx1 lx1 2 y7 := hJ2
  replace hE := hideit (keep_ext hE.out hK2 (fun i hi => by
    rcases hi with h | h
    · exact hF1.out i h
    · exact h ▸ hj.out))
  clear hK2 hF1 hs hR hJ
  have hR := hideit hJ2.row
  have hJ := hideit hJ2
  clear hJ2
  refine xm [some (.int .i64 0)] (by kernel_rfl) (by simp [xr, go_sem]) ?_
  simp only [xw, p0, p1, p2, p3]
  go_upto_region 8 with (fail)
  refine wp_region_lit ?_
  refine xm [some (.pointer (some ⟨j, 0, none⟩))] (by kernel_rfl) (by simp [xr, go_sem]) ?_
  simp only [xw, p0, p1, p2, p3]
  refine wpList_to rfl (.slice (some ⟨y7.heap.size, 0, none⟩) 1 1) (y7.alloc (.cells #[.int .u8 120] 5)) (by simp [go_sem]) ?_
  simp only [zp0, zp1, zp2, zp3]
  obtain ⟨x4, hr, hB, hX⟩ := constB y7 #[.int .u8 120] 1 (fun _ => 120#8) (fun j hj => by rcases (by omega : j = 0) with rfl <;> rfl)
  refine wpList_to rfl (.slice (some ⟨y7.heap.size, 0, none⟩) 1 1) x4 (by simp [go_sem, hr]) ?_
  simp only [zp0, zp1, zp2, zp3]
  obtain ⟨a3, ea3⟩ : ∃ a : Addr, a = ⟨y7.heap.size, 0, none⟩ := ⟨_, rfl⟩
  rw [← ea3] at hB ⊢
  clear ea3 hr
  have hb8 := hideit hB
  clear hB
  replace hR := hideit (hR.out.carry hX)
  replace hJ := hideit (hJ.out.ext hX)
  replace hE := hideit (Ext.trans hE.out (hX))
  clear hX
  refine wpList_call rfl (by simp [go_sem]) ((blk_s (.slice (some a3) 1 1) 120#8 x4 hb8.out).mono ?_)
  rintro e k8 ⟨zz, cp, rfl, hcp, hZ, hX⟩
  refine ⟨_, rfl, ?_⟩
  simp only [zp0, zp1, zp2, zp3]
  replace hR := hideit (hR.out.carry hX)
  replace hJ := hideit (hJ.out.ext hX)
  replace hE := hideit (Ext.trans hE.out (hX))
  clear hb8 hX
  refine xm [some (.agg #[.int .i64 20, .slice (some ⟨zz, 0, none⟩) 512 cp])] (by kernel_rfl) (by simp [xr, go_sem]) ?_
  simp only [xw, p0, p1, p2, p3]
  have hRL := hideit (rl_one k8 zz cp 120#8 20 hZ hcp)
  have kk : Ext k8 (k8.alloc (.cells #[.int .i64 20, .slice (some ⟨zz, 0, none⟩) 512 cp] 47)) := (Below.refl _ _).alloc (Nat.le_refl _) _
  refine wpList_to rfl (.slice (some ⟨k8.heap.size, 0, none⟩) 1 1) (k8.alloc (.cells #[.int .i64 20, .slice (some ⟨zz, 0, none⟩) 512 cp] 47)) (by simp [go_sem]) ?_
  simp only [zp0, zp1, zp2, zp3]
  obtain ⟨vb, hvb⟩ : ∃ b, b = k8.heap.size := ⟨_, rfl⟩
  rw [← hvb] at hRL ⊢
  generalize k8.alloc (.cells #[.int .i64 20, .slice (some ⟨zz, 0, none⟩) 512 cp] 47) = q8 at hRL kk ⊢
  replace hR := hideit (hR.out.carry kk)
  replace hJ := hideit (hJ.out.ext kk)
  replace hE := hideit (Ext.trans hE.out kk)
  clear kk hZ hvb hcp
  refine wpList_call rfl (by simp [go_sem]) ((append_ok j p 2 16 17#64 0 F2 30 lx1 lx1 2 (.slice (some ⟨vb, 0, none⟩) 1 1) 1 (fun _ => 20) (fun _ => .slice (some ⟨zz, 0, none⟩) 512 cp) (fun _ => 512) (fun _ _ => 120#8) q8 hJ.out hRL.out (by decide) (fun _ _ => by unfold okI; decide) (hT.out.ext hE.out) (okT_one _ (by decide) 20 (by decide) (by decide) _ like120) nf20 (by decide) (by decide)).mono ?_)
  rintro e y8 ⟨rfl, F3, hJ2, hK2, hF3⟩
  refine ⟨_, rfl, ?_⟩
  simp only [zp0, zp1, zp2, zp3]
  have hs := Below.size hE.out
  replace hF3 : Hid (∀ i, F3 i → w.heap.size ≤ i) := fun i hi => by
    rcases hF3 i hi with h | h
    · exact hF2.out i h
    · exact Nat.le_trans hs h
  replace hJ2 : JR j p 2 16 18#64 3 true F3 30 lxA lxD 5 y8 := hJ2
  replace hE := hideit (keep_ext hE.out hK2 (fun i hi => by
    rcases hi with h | h
    · exact hF2.out i h
    · exact h ▸ hj.out))
  clear hK2 hF2 hs hR hJ hRL
  have hR := hideit hJ2.row
  have hJ := hideit hJ2
  clear hJ2
  refine xm [some (.int .i64 0)] (by kernel_rfl) (by simp [xr, go_sem]) ?_
  simp only [xw, p0, p1, p2, p3]
  go_upto_region 9 with (fail)
  refine wp_region_lit ?_
  refine xm [some (.pointer (some ⟨p, 0, none⟩))] (by kernel_rfl) (by simp [xr, go_sem]) ?_
  simp only [xw, p0, p1, p2, p3]
  refine wpList_call rfl (by simp [go_sem]) ((dv_flush hJ.out.dv (by decide)).mono ?_)
  rintro e y9 ⟨rfl, hD9, hK9⟩
  refine ⟨_, rfl, ?_⟩
  simp only [zp0, zp1, zp2, zp3]
  have hJ2 := hJ.out.dvk hD9 hK9
  replace hE := hideit (keep_ext hE.out hK9 hF3.out)
  clear hD9 hK9 hJ hR
  have hR := hideit hJ2.row
  have hJ := hideit hJ2
  clear hJ2
  go_upto_region 10 with (fail)
  refine wp_region_lit ?_
  refine xm [some (.pointer (some ⟨j, 0, none⟩))] (by kernel_rfl) (by simp [xr, go_sem]) ?_
  simp only [xw, p0, p1, p2, p3]
  refine wpList_to rfl (.slice (some ⟨y9.heap.size, 0, none⟩) 1 1) (y9.alloc (.cells #[.int .u8 121] 5)) (by simp [go_sem]) ?_
  simp only [zp0, zp1, zp2, zp3]
  obtain ⟨x6, hr, hB, hX⟩ := constB y9 #[.int .u8 121] 1 (fun _ => 121#8) (fun j hj => by rcases (by omega : j = 0) with rfl <;> rfl)
  refine wpList_to rfl (.slice (some ⟨y9.heap.size, 0, none⟩) 1 1) x6 (by simp [go_sem, hr]) ?_
  simp only [zp0, zp1, zp2, zp3]
  obtain ⟨a5, ea5⟩ : ∃ a : Addr, a = ⟨y9.heap.size, 0, none⟩ := ⟨_, rfl⟩
  rw [← ea5] at hB ⊢
  clear ea5 hr
  have hb10 := hideit hB
  clear hB
  replace hR := hideit (hR.out.carry hX)
  replace hJ := hideit (hJ.out.ext hX)
  replace hE := hideit (Ext.trans hE.out (hX))
  clear hX
  refine wpList_call rfl (by simp [go_sem]) ((blk_s (.slice (some a5) 1 1) 121#8 x6 hb10.out).mono ?_)
  rintro e k10 ⟨zz, cp, rfl, hcp, hZ, hX⟩
  refine ⟨_, rfl, ?_⟩
  simp only [zp0, zp1, zp2, zp3]
  replace hR := hideit (hR.out.carry hX)
  replace hJ := hideit (hJ.out.ext hX)
  replace hE := hideit (Ext.trans hE.out (hX))
  clear hb10 hX
  refine xm [some (.agg #[.int .i64 21, .slice (some ⟨zz, 0, none⟩) 512 cp])] (by kernel_rfl) (by simp [xr, go_sem]) ?_
  simp only [xw, p0, p1, p2, p3]
  have hRL := hideit (rl_one k10 zz cp 121#8 21 hZ hcp)
  have kk : Ext k10 (k10.alloc (.cells #[.int .i64 21, .slice (some ⟨zz, 0, none⟩) 512 cp] 47)) := (Below.refl _ _).alloc (Nat.le_refl _) _
  refine wpList_to rfl (.slice (some ⟨k10.heap.size, 0, none⟩) 1 1) (k10.alloc (.cells #[.int .i64 21, .slice (some ⟨zz, 0, none⟩) 512 cp] 47)) (by simp [go_sem]) ?_
  simp only [zp0, zp1, zp2, zp3]
  obtain ⟨vb, hvb⟩ : ∃ b, b = k10.heap.size := ⟨_, rfl⟩
  rw [← hvb] at hRL ⊢
  generalize k10.alloc (.cells #[.int .i64 21, .slice (some ⟨zz, 0, none⟩) 512 cp] 47) = q10 at hRL kk ⊢
  replace hR := hideit (hR.out.carry kk)
  replace hJ := hideit (hJ.out.ext kk)
  replace hE := hideit (Ext.trans hE.out kk)
  clear kk hZ hvb hcp
  refine wpList_call rfl (by simp [go_sem]) ((append_ok j p 2 16 18#64 3 F3 30 lxD lxD 5 (.slice (some ⟨vb, 0, none⟩) 1 1) 1 (fun _ => 21) (fun _ => .slice (some ⟨zz, 0, none⟩) 512 cp) (fun _ => 512) (fun _ _ => 121#8) q10 hJ.out hRL.out (by decide) (fun _ _ => by unfold okI; decide) (hT.out.ext hE.out) (okT_one _ (by decide) 21 (by decide) (by decide) _ like121) nf21 (by decide) (by decide)).mono ?_)
  rintro e y10 ⟨rfl, F4, hJ2, hK2, hF4⟩
  refine ⟨_, rfl, ?_⟩
  simp only [zp0, zp1, zp2, zp3]
  have hs := Below.size hE.out
  replace hF4 : Hid (∀ i, F4 i → w.heap.size ≤ i) := fun i hi => by
    rcases hF4 i hi with h | h
    · exact hF3.out i h
    · exact Nat.le_trans hs h
  replace hJ2 : JR j p 2 16 19#64 6 true F4 30 lxE (wrN lxE 8 (fun _ => lxT 18#64 21 121#8 2) 1) 8 y10 := hJ2
  replace hE := hideit (keep_ext hE.out hK2 (fun i hi => by
    rcases hi with h | h
    · exact hF3.out i h
    · exact h ▸ hj.out))
  clear hK2 hF3 hs hR hJ hRL
  have hR := hideit hJ2.row
  have hJ := hideit hJ2
  clear hJ2
  refine xm [some (.int .i64 0)] (by kernel_rfl) (by simp [xr, go_sem]) ?_
  simp only [xw, p0, p1, p2, p3]
  go_upto_region 11 with (fail)
  refine wp_region_lit ?_
  refine xm [some (.pointer (some ⟨p, 0, none⟩))] (by kernel_rfl) (by simp [xr, go_sem]) ?_
  simp only [xw, p0, p1, p2, p3]
  refine wpList_call rfl (by simp [go_sem]) ((dv_crash hJ.out.dv (by decide)).mono ?_)
  rintro e y11 ⟨rfl, hD9, hK9⟩
  refine ⟨_, rfl, ?_⟩
  simp only [zp0, zp1, zp2, zp3]
  have hJ2 := hJ.out.dvk hD9 hK9
  replace hE := hideit (keep_ext hE.out hK9 hF4.out)
  clear hD9 hK9 hJ hR
  have hR := hideit hJ2.row
  have hJ := hideit hJ2
  clear hJ2
  go_upto_region 12 with (fail)
  refine wp_region_lit ?_
  refine xm [some (.pointer (some ⟨p, 0, none⟩))] (by kernel_rfl) (by simp [xr, go_sem]) ?_
  simp only [xw, p0, p1, p2, p3]
  refine wpList_call rfl (by simp [go_sem]) ((open_sl p 2 16 15 17#64 F4 30 lxE lxE 8 y11 hJ.out.dv (hT.out.ext hE.out) (by decide) (by decide) (by decide) rfl (by decide) (by decide) lx_mark 1 (fun _ => 1) (fun _ _ => 20) (fun _ _ => 512) (fun _ _ _ => 120#8) (fun k hk => by
    obtain rfl : k = 0 := by omega
    rw [nuK_zero]
    exact ⟨okT_one _ (by decide) 20 (by decide) (by decide) _ like120, nf20, lx_tx⟩) (by decide) lx_end 1 3 18#64 rfl rfl (by decide)).mono ?_)
  rintro e y12 ⟨j2, o5, c5, u5, rfl, hD5, hJ5, _, hX⟩
  refine ⟨_, rfl, ?_⟩
  simp only [zp0, zp1, zp2, zp3]
  replace hR := hideit (hR.out.carry hX)
  replace hJ := hideit (hJ.out.ext hX)
  replace hE := hideit (Ext.trans hE.out (hX))
  have hR2 := hideit hJ5.row
  clear hX hJ5
  refine xm [some (.tuple #[.pointer (some ⟨j2, 0, none⟩), .slice o5 1 c5, .int .i64 0]), some (.pointer (some ⟨j2, 0, none⟩)), some (.slice o5 1 c5), some (.int .i64 0), some (.pointer (some ⟨j2, 0, none⟩)), some (.slice o5 1 c5), some (.int .i64 0)] (by kernel_rfl) (by simp [xr, go_sem]) ?_
  simp only [xw, p0, p1, p2, p3]
  obtain ⟨v5, cc, e5, _, _, _, hv5⟩ := hD5.own.lies (by decide)
  injection e5 with e5 _ e6
  subst e5 e6
  replace hv5 : Hid (RowAt v5 2 (rdC (fun _ => 20) u5) y12) := hv5.congr fun i hi => by rcases (by omega : i = 0 ∨ i = 1) with rfl | rfl <;> rfl
  clear hD5
  go_upto_region 13 with (fail)
  refine wp_region_lit ?_
  simp only [List.append_eq, List.cons_append, List.nil_append]
  refine xm [some (.int .i64 0), some (.bool true), some (.bool true), some (.int .i64 0), some (.bool true), some (.bool true), some (.bool true), some (.int .i64 0), some (.bool true), some (.bool true), some (.bool true), some (.int .i64 2), some (.bool true), some (.bool true), some (.bool true), some (.int .i64 0), some (.bool true), some (.bool true), some (.bool true), some (.pointer (some ⟨j, 0, none⟩))] (by kernel_rfl) (by simp [xr, go_sem]) ?_
  simp only [xw, p0, p1, p2, p3]
  refine wpList_callW rfl (by simp [go_sem]) ((jbegun p 2 16 19#64 6 true j y12 hR.out).mono ?_)
  rintro e y7 ⟨rfl, h8⟩
  replace h8 : Ext y12 y7 := by rw [h8]; exact Ext.refl _
  refine ⟨_, rfl, ?_⟩
  simp only [zp0, zp1, zp2, zp3]
  replace hR := hideit (hR.out.carry h8)
  replace hR2 := hideit (hR2.out.carry h8)
  replace hv5 := hideit (hv5.out.carry h8)
  replace hE := hideit (Ext.trans hE.out (h8))
  clear h8
  refine xm [some (.bool true), some (.bool true), some (.pointer (some ⟨j, 0, none⟩))] (by kernel_rfl) (by simp [xr, go_sem]) ?_
  simp only [xw, p0, p1, p2, p3]
  refine wpList_callW rfl (by simp [go_sem]) ((room67 p j y7 hR.out).mono ?_)
  rintro e y9 ⟨rfl, hX10⟩
  refine ⟨_, rfl, ?_⟩
  simp only [zp0, zp1, zp2, zp3]
  replace hR := hideit (hR.out.carry hX10)
  replace hR2 := hideit (hR2.out.carry hX10)
  replace hv5 := hideit (hv5.out.carry hX10)
  replace hE := hideit (Ext.trans hE.out (hX10))
  clear hX10
  have m11 : y9.cell? ⟨v5, 0, none⟩ = some (.int .i64 20) := hv5.out.1 0 (by decide)
  refine xm [some (.bool true), some (.bool true), some (.bool true), some (.pointer (some ⟨j2, 0, none⟩)), some (.bool true), some (.bool true), some (.bool true), some (.slice (some ⟨v5, 0, none⟩) 1 c5), some (.int .i64 1), some (.bool true), some (.bool true), some (.bool true), some (.slice (some ⟨v5, 0, none⟩) 1 c5), some (.pointer (some ⟨v5, 0, none⟩)), some (.pointer (some ⟨v5, 0, none⟩)), some (.int .i64 20), some (.bool true), some (.bool true), some (.bool true), some (.pointer (some ⟨j2, 0, none⟩))] (by kernel_rfl) (by simp [xr, go_sem, m11]) ?_
  simp only [xw, p0, p1, p2, p3]
  clear m11
  refine wpList_callW rfl (by simp [go_sem]) ((jnumber p 2 16 18#64 3 false j2 y9 hR2.out).mono ?_)
  rintro e y12 ⟨rfl, h13⟩
  replace h13 : Ext y9 y12 := by rw [h13]; exact Ext.refl _
  refine ⟨_, rfl, ?_⟩
  simp only [zp0, zp1, zp2, zp3]
  replace hR := hideit (hR.out.carry h13)
  replace hR2 := hideit (hR2.out.carry h13)
  replace hv5 := hideit (hv5.out.carry h13)
  replace hE := hideit (Ext.trans hE.out (h13))
  clear h13
  refine xm [some (.bool true), some (.bool true), some (.bool true), some (.pointer (some ⟨j2, 0, none⟩))] (by kernel_rfl) (by simp [xr, go_sem]) ?_
  simp only [xw, p0, p1, p2, p3]
  refine wpList_callW rfl (by simp [go_sem]) ((jused p 2 16 18#64 3 false j2 y12 hR2.out).mono ?_)
  rintro e y14 ⟨rfl, h15⟩
  replace h15 : Ext y12 y14 := by rw [h15]; exact Ext.refl _
  refine ⟨_, rfl, ?_⟩
  simp only [zp0, zp1, zp2, zp3]
  replace hR := hideit (hR.out.carry h15)
  replace hR2 := hideit (hR2.out.carry h15)
  replace hv5 := hideit (hv5.out.carry h15)
  replace hE := hideit (Ext.trans hE.out (h15))
  clear h15
  refine xm [some (.bool true), some (.bool true), some (.bool true), some (.pointer (some ⟨j2, 0, none⟩))] (by kernel_rfl) (by simp [xr, go_sem]) ?_
  simp only [xw, p0, p1, p2, p3]
  refine wpList_callW rfl (by simp [go_sem]) ((jroom_no p 2 16 18#64 3 j2 y14 hR2.out).mono ?_)
  rintro e y16 ⟨rfl, h17⟩
  replace h17 : Ext y14 y16 := by rw [h17]; exact Ext.refl _
  refine ⟨_, rfl, ?_⟩
  simp only [zp0, zp1, zp2, zp3]
  replace hR := hideit (hR.out.carry h17)
  replace hR2 := hideit (hR2.out.carry h17)
  replace hv5 := hideit (hv5.out.carry h17)
  replace hE := hideit (Ext.trans hE.out (h17))
  clear h17
  refine xm [some (.bool true), some (.bool true), some (.bool true), some (.pointer (some ⟨j2, 0, none⟩))] (by kernel_rfl) (by simp [xr, go_sem]) ?_
  simp only [xw, p0, p1, p2, p3]
  refine wpList_callW rfl (by simp [go_sem]) ((most16 p j2 y16 hR2.out).mono ?_)
  rintro e y18 ⟨rfl, h19⟩
  replace h19 : Ext y16 y18 := by rw [h19]; exact Ext.refl _
  refine ⟨_, rfl, ?_⟩
  simp only [zp0, zp1, zp2, zp3]
  replace hR := hideit (hR.out.carry h19)
  replace hR2 := hideit (hR2.out.carry h19)
  replace hv5 := hideit (hv5.out.carry h19)
  replace hE := hideit (Ext.trans hE.out (h19))
  clear h19
  refine xm [some (.bool true), some (.bool true), some (.bool true), some (.pointer (some ⟨j2, 0, none⟩))] (by kernel_rfl) (by simp [xr, go_sem]) ?_
  simp only [xw, p0, p1, p2, p3]
  refine wpList_callW rfl (by simp [go_sem]) ((jbegun p 2 16 18#64 3 false j2 y18 hR2.out).mono ?_)
  rintro e y20 ⟨rfl, h21⟩
  replace h21 : Ext y18 y20 := by rw [h21]; exact Ext.refl _
  refine ⟨_, rfl, ?_⟩
  simp only [zp0, zp1, zp2, zp3]
  replace hR := hideit (hR.out.carry h21)
  replace hR2 := hideit (hR2.out.carry h21)
  replace hv5 := hideit (hv5.out.carry h21)
  replace hE := hideit (Ext.trans hE.out (h21))
  clear h21
  refine xm [some (.bool true), some (.bool true), some (.bool true)] (by kernel_rfl) (by simp [xr, go_sem]) ?_
  simp only [xw, p0, p1, p2, p3]
  go_wp2
  go_ret
  exact ⟨rfl, hE.out⟩
end Go.Proofs.YtiakkclabgelfaaDoor
