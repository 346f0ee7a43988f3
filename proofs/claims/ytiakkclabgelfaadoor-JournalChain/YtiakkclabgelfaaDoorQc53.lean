/-
  Transactions, one after the other.
-/
import Derived.Test.YtiakkclabgelfaaDoorQc1
import Derived.Test.YtiakkclabgelfaaDoorQc52
namespace Go.Proofs.YtiakkclabgelfaaDoor
open Go.RowKit Go.BigFrame Go.Maps
set_option linter.unusedVariables false
set_option maxRecDepth 20000
theorem ownk_rls {B m : Nat} {v : Value} {bs : Nat → Int} {us : Nat → Value} {ls : Nat → Nat} {fs : Nat → Nat → BitVec 8} {X : World} (h : OwnK 2 B 47 v m (rdC bs us) X) (hp : ∀ i, i < m → PV (us i) (ls i) (fs i) X ∧ ls i ≤ 140737488355328) : RLs v m bs us ls fs X := by
  refine ⟨?_, hp⟩
  by_cases h0 : 0 < m
  · obtain ⟨b, cap, h1, _, h2, _, h3⟩ := h.lies h0
    exact .inr ⟨_, cap, h1, h2, (RowAt.lie h3 (m * 2) (Nat.le_refl _)).1⟩
  · rcases h.2 with ⟨h1, h2⟩ | ⟨b, cap, cur, h1, _⟩
    · exact .inl ⟨h1, h2⟩
    · exact .inr ⟨_, cap, h1, by omega, fun j hj => by omega⟩
theorem append_quiet (j p fi co : Nat) (nu : BitVec 64) (us9 : Nat) (F : Nat → Prop) (N : Nat) (A D : Nat → Nat → BitVec 8) (C : Nat) (v0 : Value) (n : Nat) (bs : Nat → Int) (us : Nat → Value) (ls : Nat → Nat) (fs : Nat → Nat → BitVec 8) (w : World) (hJ : JR j p fi co nu us9 true F N A D C w) (hL : RLs v0 n bs us ls fs w) (hn : n ≤ 4398046511104) (hbi : ∀ i, i < n → okI (bs i)) (hT : TabC w) (hu : us9 ≤ 1000) (hC4 : C + 256 ≤ 4398046511104) (hno : ¬ (okT nu n bs ls fs ∧ ¬ fgL fi co N n bs ∧ n ≤ rmN co us9 true)) :
    Calls Tryd.prog 6 #[.pointer (some ⟨j, 0, none⟩), v0] w fun e w' => ∃ c : Int, e = .returned (.int .i64 c) ∧ c ≠ 0 ∧ Ext w w' :=
  (append_any j p fi co nu us9 F N A D C v0 n bs us ls fs w hJ hL hn hbi hT hu hC4).mono fun e w' h => by
    rcases h with ⟨c, h1, h2, h3⟩ | ⟨h1, h2, h3, _⟩
    · exact ⟨c, h2, h1, h3⟩
    · exact absurd ⟨h1, h2, h3⟩ hno
theorem append_yes (j p fi co : Nat) (nu : BitVec 64) (us9 : Nat) (F : Nat → Prop) (N : Nat) (A D : Nat → Nat → BitVec 8) (C : Nat) (v0 : Value) (n : Nat) (bs : Nat → Int) (us : Nat → Value) (ls : Nat → Nat) (fs : Nat → Nat → BitVec 8) (w : World) (hJ : JR j p fi co nu us9 true F N A D C w) (hL : RLs v0 n bs us ls fs w) (hn : n ≤ 4398046511104) (hbi : ∀ i, i < n → okI (bs i)) (hT : TabC w) (hC4 : C + 256 ≤ 4398046511104) (h1 : okT nu n bs ls fs) (h2 : ¬ fgL fi co N n bs) (h3 : n ≤ rmN co us9 true) :
    Calls Tryd.prog 6 #[.pointer (some ⟨j, 0, none⟩), v0] w fun e w' => e = .returned (.int .i64 0) ∧ ∃ F' A', JR j p fi co (nu + 1) (us9 + (n + 2)) true F' N A' (apD D (fi + 1 + us9) n (trF nu (tmK ls fs n) n bs fs)) (C + (n + 2)) w' ∧ Keeps (fun i => F i ∨ i = j) w w' ∧ ∀ b, F' b → F b ∨ w.heap.size ≤ b :=
  (append_ok j p fi co nu us9 F N A D C v0 n bs us ls fs w hJ hL hn hbi hT h1 h2 h3 hC4).mono fun e w' ⟨a, F', b, c, d⟩ => ⟨a, F', _, b, c, d⟩
theorem add_one2 (a : Addr) (k : Nat) : (⟨(a.add k).block, (a.add k).off + 1, none⟩ : Addr) = a.add (k + 1) := by
  rw [← add_one', add_add]
theorem lx_zero : ¬ (hasP (nuK 1#64 0) (29 - ofN (fun _ => 1) 0) (fun _ => 512) (fun i => wrN (fun _ _ => 0#8) 0 (fun _ => markF 1#64) 1 (0 + 1 + (ofN (fun _ => 1) 0 + i))) ∧ isTx (nuK 1#64 0) (fun _ => 512) (fun i => wrN (fun _ _ => 0#8) 0 (fun _ => markF 1#64) 1 (0 + 1 + (ofN (fun _ => 1) 0 + i)))) := fun h => noPl (l := 512) (f := wrN (fun _ _ => 0#8) 0 (fun _ => markF 1#64) 1 1) rfl h.1.2.1
def cz1 : Nat → Nat → BitVec 8 := wrN (fun _ _ => 0#8) 0 (fun _ => markF 1#64) 1
def cz2 : Nat → Nat → BitVec 8 := wrN cz1 0 (fun _ => markF 31#64) 1
theorem cz_chn (tn : Nat → Nat) (tb : Nat → Nat → Int) (tl : Nat → Nat → Nat) (tf : Nat → Nat → Nat → BitVec 8) : CHN cz2 31#64 0 tn tb tl tf :=
  ⟨by decide, rfl, fun k hk => absurd hk (Nat.not_lt_zero _), Nat.zero_le _, fun b hb h => by
    have e : cz2 (1 + b) = fun _ => 0#8 := by
      unfold cz2 cz1
      rw [wrN_out _ _ _ _ _ (.inr (by omega)), wrN_out _ _ _ _ _ (.inr (by omega))]
    rw [e] at h
    exact absurd h (noPl rfl)⟩
set_option maxRecDepth 20000 in
set_option maxHeartbeats 4000000 in
theorem chain_any (o : Option Addr) (n9 cap : Nat) (kd : Nat → Int) (rv : Nat → Value) (w : World) (hn9 : n9 ≤ 4398046511104) (hO : ∀ i, i < n9 → ∃ a, o = some a ∧ (w.cell? (a.add (i * 5)) = some (.int .i64 (kd i)) ∧ w.cell? (a.add (i * 5 + 1)) = some (rv i)) ∧ RArg (rv i) w) (hT : TabC w) : Calls Tryd.prog 4 #[.slice o n9 cap] w fun e w' => e = .returned (.bool true) ∧ Ext w w' := by
  replace hT := hideit hT
  replace hO := hideit hO
  have hE := hideit (Ext.refl w)
  go_enter Tryd.func4, Tryd.ntmps4
  go_upto_region 1 with (fail)
  refine wp_region_lit ?_
  refine wpList_call rfl (by simp [go_sem]) ((dv_new 60 (by decide) (by decide) w).mono ?_)
  rintro e y1 ⟨p, F, rfl, hD, hX, hF⟩
  refine ⟨_, rfl, ?_⟩
  simp only [zp0, zp1, zp2, zp3]
  replace hE := hideit (Ext.trans hE.out (hX))
  replace hD := hideit hD
  replace hF : Hid (∀ i, F i → w.heap.size ≤ i) := hideit hF
  clear hX
  refine xm [some (.tuple #[.pointer (some ⟨p, 0, none⟩), .int .i64 0]), some (.pointer (some ⟨p, 0, none⟩)), some (.int .i64 0), some (.pointer (some ⟨p, 0, none⟩)), some (.int .i64 0)] (by kernel_rfl) (by simp [xr, go_sem]) ?_
  simp only [xw, p0, p1, p2, p3]
  go_upto_region 2 with (fail)
  refine wp_region_lit ?_
  refine wpList_call rfl (by simp [go_sem]) ((lives_any y1 (hT.out.ext hE.out)).mono ?_)
  rintro e y1 ⟨rfl, hX2⟩
  refine ⟨_, rfl, ?_⟩
  simp only [zp0, zp1, zp2, zp3]
  replace hD := hideit (hD.out.ext hX2)
  replace hE := hideit (Ext.trans hE.out (hX2))
  clear hX2
  refine xm [some (.bool false), some (.bool false), some (.int .i64 0), some (.bool false), some (.bool false), some (.bool false), some (.pointer (some ⟨p, 0, none⟩)), some (.bool false), some (.bool false), some (.bool false), some (.pointer (some ⟨p, 0, none⟩))] (by kernel_rfl) (by simp [xr, go_sem]) ?_
  simp only [xw, p0, p1, p2, p3]
  refine wpList_callW rfl (by simp [go_sem]) ((init_ok p 0 30 60 F (fun _ _ => 0#8) (fun _ _ => 0#8) 0 y1 hD.out (hT.out.ext hE.out) (by decide) (by decide) (by decide) (by decide)).mono ?_)
  rintro e y2 ⟨rfl, F1, hD1, hK1, hF1⟩
  refine ⟨_, rfl, ?_⟩
  simp only [zp0, zp1, zp2, zp3]
  have hs := Below.size hE.out
  replace hD1 : Hid (DV F1 p 60 cz1 cz1 1 y2) := hideit hD1
  replace hF1 : Hid (∀ i, F1 i → w.heap.size ≤ i) := fun i hi => by
    rcases hF1 i hi with h | h
    · exact hF.out i h
    · exact Nat.le_trans hs h
  replace hE := hideit (keep_ext hE.out hK1 hF.out)
  clear hD hK1 hF hs
  refine xm [some (.bool false), some (.bool false)] (by kernel_rfl) (by simp [xr, go_sem]) ?_
  simp only [xw, p0, p1, p2, p3]
  have h0E := hE
  go_upto_region 4 with (fail)
  refine wp_region_lit ?_
  refine xm [some (.pointer (some ⟨p, 0, none⟩))] (by kernel_rfl) (by simp [xr, go_sem]) ?_
  simp only [xw, p0, p1, p2, p3]
  refine wpList_call rfl (by simp [go_sem]) ((open_sl p 0 30 29 1#64 F1 60 cz1 cz1 1 y2 hD1.out (hT.out.ext hE.out) (by decide) (by decide) (by decide) rfl (by decide) (by decide) rfl 0 (fun _ => 1) (fun _ _ => 0) (fun _ _ => 0) (fun _ _ _ => 0#8) (fun k hk => absurd hk (Nat.not_lt_zero _)) (by decide) lx_zero 0 0 1#64 rfl rfl (nuK_zero _)).mono ?_)
  rintro e y3 ⟨j, o3, c3, u3, rfl, _, hJ, hj, hX⟩
  refine ⟨_, rfl, ?_⟩
  simp only [zp0, zp1, zp2, zp3]
  replace hE := hideit (Ext.trans hE.out (hX))
  replace hj : Hid (w.heap.size ≤ j) := hideit (Nat.le_trans (Below.size h0E.out) hj)
  replace hJ := hideit hJ
  clear hX h0E hD1
  refine xm [some (.tuple #[.pointer (some ⟨j, 0, none⟩), .slice o3 0 c3, .int .i64 0]), some (.pointer (some ⟨j, 0, none⟩)), some (.slice o3 0 c3), some (.int .i64 0), some (.pointer (some ⟨j, 0, none⟩)), some (.slice o3 0 c3), some (.int .i64 0)] (by kernel_rfl) (by simp [xr, go_sem]) ?_
  simp only [xw, p0, p1, p2, p3]
  go_upto_region 5 with (fail)
  refine wp_region_lit ?_
  refine xm [some (.int .i64 0), some (.bool false), some (.bool false), some (.pointer (some ⟨j, 0, none⟩)), some (.bool false), some (.bool false), some (.bool false), some (.pointer (some ⟨j, 0, none⟩))] (by kernel_rfl) (by simp [xr, go_sem]) ?_
  simp only [xw, p0, p1, p2, p3]
  refine wpList_callW rfl (by simp [go_sem]) ((reset_ok j p 0 30 1#64 0 false F1 60 cz1 cz1 1 y3 hJ.out (hT.out.ext hE.out) 31#64 (.inr ⟨rfl, by decide, by decide, by decide⟩) (by decide) (by decide)).mono ?_)
  rintro e y7 ⟨rfl, F2, hJ2, hK2, hF2⟩
  refine ⟨_, rfl, ?_⟩
  simp only [zp0, zp1, zp2, zp3]
  have hs := Below.size hE.out
  replace hF2 : ∀ i, F2 i → w.heap.size ≤ i := fun i hi => by
    rcases hF2 i hi with h | h
    · exact hF1.out i h
    · exact Nat.le_trans hs h
  replace hJ2 : JR j p 0 30 31#64 0 true F2 60 cz2 cz2 2 y7 := hJ2
  replace hE := hideit (keep_ext hE.out hK2 (fun i hi => by
    rcases hi with h | h
    · exact hF1.out i h
    · exact h ▸ hj.out))
  have hS : Hid (CS w j p 0 31#64 0 (.slice none 0 0) 31#64 0 (fun _ => 0) (fun _ _ => 0) (fun _ _ => 0) (fun _ _ _ => 0#8) (fun _ => .slice none 0 0) F2 cz2 cz2 2 y7) := ⟨cz_chn _ _ _ _, hJ2, (nuK_zero _).symm, rfl, hF2, hE.out, ownK_nil _ _ _ _ _, fun b hb => (by cases hb), hj.out, fun i hi => absurd hi (Nat.not_lt_zero _), by decide, by decide, by decide⟩
  clear hK2 hF1 hF2 hs hJ hJ2 hj hE
  refine xm [some (.bool false), some (.bool false)] (by kernel_rfl) (by simp [xr, go_sem]) ?_
  simp only [xw, p0, p1, p2, p3]
  go_upto_region 7 with (fail)
  refine wp_region_lit ?_
  refine xm [some (.slice none 0 0)] (by kernel_rfl) (by simp [xr, go_sem]) ?_
  simp only [xw, p0, p1, p2, p3]
  go_upto_region 8 with (fail)
  refine wp_region_lit ?_
  refine xm [some (.int .u64 31)] (by kernel_rfl) (by simp [xr, go_sem]) ?_
  simp only [xw, p0, p1, p2, p3]
  go_upto_region 9 with (fail)
  refine wp_region_lit ?_
  refine xm [some (.int .i64 0)] (by kernel_rfl) (by simp [xr, go_sem]) ?_
  simp only [xw, p0, p1, p2, p3]
  go_upto_region 10 with (fail)
  go_loopw [8, 9, 10] (fun av nv iv X => ∃ (k m9 K : Nat) (nx n0 : BitVec 64) (tn : Nat → Nat) (tb : Nat → Nat → Int) (tl : Nat → Nat → Nat) (tf : Nat → Nat → Nat → BitVec 8) (us : Nat → Value) (F : Nat → Prop) (A D : Nat → Nat → BitVec 8) (C : Nat), k ≤ 100 ∧ iv = .int .i64 (k : Int) ∧ nv = .int .u64 (nx.toNat : Int) ∧ CS w j p k nx m9 av n0 K tn tb tl tf us F A D C X) (fun _ _ iv _ => 200 - (intOf iv).toNat)
  case atStart => exact ⟨0, 0, 0, 31#64, 31#64, _, _, _, _, _, _, _, _, _, by decide, rfl, rfl, hS.out⟩
  case round =>
    clear hS
    obtain ⟨k, m9, K, nx, n0, tn, tb, tl, tf, us, F, A, D, C, hk, rfl, rfl, hS⟩ := hrel
    obtain ⟨oa, ca, rfl⟩ := hS.own.form
    have hR := hideit hS.jr.row
    have hC4 : Hid (C + 256 ≤ 4398046511104) := by have := hS.cn; exact hideit (by omega)
    have hof : Hid (ofN tn K ≤ 29) := hideit hS.chn.le
    have hTr := hideit (hT.out.ext hS.ex)
    have hnx := hideit hS.hi
    have hk9 : Hid (k ≤ 100) := hideit hk
    have hm9 : Hid (m9 ≤ 29) := by have := smN_le tn K; rw [hS.em]; have := hof.out; exact hideit (by omega)
    replace hS := hideit hS
    by_cases hlt : k < n9 ∧ k < 100
    · have hE := hideit (Ext.refl wr)
      replace hk9 : Hid (k < 100) := hideit hlt.2
      obtain ⟨a, rfl, ⟨hc0, hc1⟩, hRA⟩ := hO.out k hlt.1
      obtain ⟨n, bs, us2, ls, fs, hRL, hbi, hnn⟩ := hRA
      obtain ⟨ro, rc, hrv⟩ := hRL.form
      rw [hrv] at hc1 hRL
      have k1 : (k : Int) < (n9 : Int) := by omega
      have k2 : (k : Int) < 100 := by omega
      have ek : IntKind.i64.wrap ((k : Int) + 1) = ((k + 1 : Nat) : Int) := by rw [IntKind.wrap_i64]; omega
      have hRLw := hideit hRL
      have hp1 : Hid (∀ i, i < n → PV (us2 i) (ls i) (fs i) w ∧ ls i ≤ 140737488355328) := hRL.2
      rw [← add_one2] at hc1
      have hc0' : Hid (∀ X, Ext w X → X.cell? (a.add (k * 5)) = some (.int .i64 (kd k))) := fun X h => cell_ext' h hc0
      have hc1' : Hid (∀ X, Ext w X → X.cell? ⟨(a.add (k * 5)).block, (a.add (k * 5)).off + 1, none⟩ = some (.slice ro n rc)) := fun X h => cell_ext' h hc1
      clear hc0 hc1
      have hc0 := hc0'
      have hc1 := hc1'
      clear hc0' hc1'
      replace hRL := hideit (hRL.ext hS.out.ex)
      replace ek := hideit ek
      replace k1 := hideit k1
      replace k2 := hideit k2
      replace hbi := hideit hbi
      obtain ⟨kd9, hkd⟩ : ∃ z, z = kd k := ⟨_, rfl⟩
      rw [← hkd] at hc0
      replace hkd := hideit hkd
      clear hrv
      go_upto_region 10 with (fail)
      refine wp_region_lit ?_
      refine xm [some (.int .i64 (k : Int)), some (.slice (some a) n9 cap), some (.int .i64 (n9 : Int)), some (.bool true), some (.bool true), some (.int .i64 (k : Int)), some (.bool true), some (.bool true)] (by kernel_rfl) (by simp [xr, go_sem, k1.out, k2.out]) ?_
      simp only [xw, p0, p1, p2, p3]
      go_upto_region 12 with (fail)
      refine wp_region_lit ?_
      refine xm [some (.slice (some a) n9 cap), some (.int .i64 (k : Int)), some (.pointer (some (a.add (k * 5)))), some (.pointer (some (a.add (k * 5))))] (by kernel_rfl) (by simp [xr, go_sem, k1.out]) ?_
      simp only [xw, p0, p1, p2, p3]
      refine xm [some (.int .i64 (kd9))] (by kernel_rfl) (by simp [xr, go_sem, (hc0.out _ hS.out.ex)]) ?_
      simp only [xw, p0, p1, p2, p3]
      by_cases e1 : kd9 = 1
      · subst e1
        clear hkd
        go_upto_region 13 with (fail)
        refine wp_region_lit ?_
        refine xm [some (.bool true), some (.bool true)] (by kernel_rfl) (by simp [xr, go_sem]) ?_
        simp only [xw, p0, p1, p2, p3]
        go_upto_region 14 with (fail)
        refine wp_region_lit ?_
        refine xm [some (.pointer (some ⟨j, 0, none⟩))] (by kernel_rfl) (by simp [xr, go_sem]) ?_
        simp only [xw, p0, p1, p2, p3]
        refine wpList_call rfl (by simp [go_sem]) ((jroom_yes p 0 30 nx (ofN tn K) j wr hR.out (by decide) (by have := hof.out; omega)).mono ?_)
        rintro e y3 ⟨rfl, hX4⟩
        refine ⟨_, rfl, ?_⟩
        simp only [zp0, zp1, zp2, zp3]
        replace hR := hideit (hR.out.carry hX4)
        replace hS := hideit (hS.out.ext hX4)
        replace hTr := hideit (hTr.out.ext hX4)
        replace hE := hideit (Ext.trans hE.out (hX4))
        clear hX4
        refine xm [some (.pointer (some ⟨j, 0, none⟩))] (by kernel_rfl) (by simp [xr, go_sem]) ?_
        simp only [xw, p0, p1, p2, p3]
        refine wpList_call rfl (by simp [go_sem]) ((jused p 0 30 nx (ofN tn K) true j y3 hR.out).mono ?_)
        rintro e y5 ⟨rfl, h6⟩
        replace h6 : Ext y3 y5 := by rw [h6]; exact Ext.refl _
        refine ⟨_, rfl, ?_⟩
        simp only [zp0, zp1, zp2, zp3]
        replace hR := hideit (hR.out.carry h6)
        replace hS := hideit (hS.out.ext h6)
        replace hTr := hideit (hTr.out.ext h6)
        replace hE := hideit (Ext.trans hE.out (h6))
        clear h6
        refine xm [some (.int .i64 ((rmN 30 (ofN tn K) true : Nat) : Int)), some (.int .i64 ((ofN tn K : Nat) : Int))] (by kernel_rfl) (by simp [xr, go_sem]) ?_
        simp only [xw, p0, p1, p2, p3]
        by_cases hap : okT nx n bs ls fs ∧ ¬ fgL 0 30 60 n bs ∧ n ≤ rmN 30 (ofN tn K) true
        · obtain ⟨hok, hnf, hle⟩ := hap
          have hro : ∃ a2, ro = some a2 ∧ ∀ X, Ext w X → ∀ q, q < n * 2 → X.cell? (a2.add q) = some (rdC bs us2 q) := by
            rcases hRLw.out.1 with ⟨_, h0⟩ | ⟨a2, c2, e, _, hc⟩
            · have := hok.1.2.1
              omega
            · injection e with e
              exact ⟨a2, e, fun X h q hq => cell_ext' h (hc q hq)⟩
          have hn64 := hok.1.2.2.1
          have hn1 := hok.1.2.1
          have z1 : IntKind.i64.wrap (((ofN tn K : Nat) : Int) + (n : Int)) = ((ofN tn K + n : Nat) : Int) := by have := hof.out; rw [IntKind.wrap_i64]; omega
          have z2 : IntKind.i64.wrap (((ofN tn K : Nat) : Int) + (n : Int) + 2) = ((ofN tn K : Nat) : Int) + ((n : Int) + 2) := by have := hof.out; rw [IntKind.wrap_i64]; omega
          have z3 : IntKind.u64.wrap ((nx.toNat : Int) + 1) = ((nx + 1).toNat : Int) := by
            have := nx_succ (nx := nx) (by have := hnx.out; omega)
            rw [IntKind.wrap_u64, this]
            have := hnx.out
            omega
          have f1 : ¬ ((rmN 30 (ofN tn K) true : Nat) : Int) < (n : Int) := by omega
          replace hok := hideit hok
          replace hnf := hideit hnf
          replace hle := hideit hle
          replace z1 := hideit z1
          replace z2 := hideit z2
          replace z3 := hideit z3
          replace f1 := hideit f1
          go_upto_region 15 with (fail)
          refine wp_region_lit ?_
          refine xm [some (.pointer (some ⟨j, 0, none⟩)), some (.slice (some a) n9 cap), some (.int .i64 (k : Int)), some (.pointer (some (a.add (k * 5)))), some (.pointer (some ⟨(a.add (k * 5)).block, (a.add (k * 5)).off + 1, none⟩))] (by kernel_rfl) (by simp [xr, go_sem, k1.out]) ?_
          simp only [xw, p0, p1, p2, p3]
          refine xm [some (.slice ro n rc)] (by kernel_rfl) (by simp [xr, go_sem, (hc1.out _ hS.out.ex)]) ?_
          simp only [xw, p0, p1, p2, p3]
          refine wpList_call rfl (by simp [go_sem]) ((append_yes j p 0 30 nx (ofN tn K) F 60 A D C (.slice ro n rc) n bs us2 ls fs y5 hS.out.jr (hRL.out.ext hE.out) hnn hbi.out hTr.out hC4.out hok.out hnf.out hle.out).mono ?_)
          rintro e Y ⟨rfl, F', A', hJ', hK', hF'⟩
          refine ⟨_, rfl, ?_⟩
          simp only [zp0, zp1, zp2, zp3]
          obtain ⟨q1, q2, q3, q4⟩ := hS.out.mid hK' hF'
          have hR' := hideit hJ'.row
          replace hJ' := hideit hJ'
          replace hK' := hideit hK'
          replace hF' := hideit hF'
          replace q1 := hideit q1
          replace q2 := hideit q2
          clear q3 q4 hR hE hTr
          refine xm [some (.int .i64 0)] (by kernel_rfl) (by simp [xr, go_sem]) ?_
          simp only [xw, p0, p1, p2, p3]
          go_upto_region 16 with (fail)
          refine wp_region_lit ?_
          refine xm [some (.int .i64 0), some (.bool true)] (by kernel_rfl) (by simp [xr, go_sem]) ?_
          simp only [xw, p0, p1, p2, p3]
          have hY := hideit (Ext.refl Y)
          go_upto_region 17 with (fail)
          replace hR' := hideit hR'.out.drew
          replace hY := hideit (Ext.draw hY.out)
          refine wp_region_lad (fun X => Ext Y.drew X) [(false, 0), (false, 1), (false, 2), (false, 3), (false, 4), (false, 5), (false, 6), (false, 7), (false, 8), (false, 9), (false, 11), (false, 12), (false, 13), (false, 14), (false, 15), (false, 16), (false, 17), (false, 18), (false, 19), (true, 10), (false, 20), (false, 21)] (by kernel_rfl) (by kernel_rfl) (by decide +kernel) (by decide +kernel) (by decide +kernel) (by decide +kernel) (Ext.refl _) ?_
          refine wpX_f _ (.slice (some a) n9 cap) rfl rfl (fun X _ => by simp [go_sem]) ?_
          simp only [List.getElem_toArray, List.getElem_cons_zero, Act.put, List.setIfInBounds_toArray, List.set_cons_zero, List.set_cons_succ]
          refine wpX_f _ (.int .i64 (k : Int)) rfl rfl (fun X _ => by simp [go_sem]) ?_
          simp only [zp4, zp5, zp6, zp0, zp1, zp2, zp3]
          refine wpX_f _ (.pointer (some (a.add (k * 5)))) rfl rfl (fun X _ => by simp [go_sem, k1.out]) ?_
          simp only [zp4, zp5, zp6, zp0, zp1, zp2, zp3]
          refine wpX_f _ (.pointer (some ⟨(a.add (k * 5)).block, (a.add (k * 5)).off + 1, none⟩)) rfl rfl (fun X _ => by simp [go_sem]) ?_
          simp only [zp4, zp5, zp6, zp0, zp1, zp2, zp3]
          refine wpX_f _ (.slice ro n rc) rfl rfl (fun X hX => (by have q := hc1.out X (Ext.trans (Ext.trans q2.out hY.out) hX); simp [go_sem, q])) ?_
          simp only [zp4, zp5, zp6, zp0, zp1, zp2, zp3]
          refine wpX_f _ (.int .i64 (n : Int)) rfl rfl (fun X _ => by simp [go_sem]) ?_
          simp only [zp4, zp5, zp6, zp0, zp1, zp2, zp3]
          refine wpX_f _ (.int .i64 ((rmN 30 (ofN tn K) true : Nat) : Int)) rfl rfl (fun X _ => by simp [go_sem]) ?_
          simp only [zp4, zp5, zp6, zp0, zp1, zp2, zp3]
          refine wpX_f _ (.bool false) rfl rfl (fun X _ => by simp [go_sem, f1.out]) ?_
          simp only [zp4, zp5, zp6, zp0, zp1, zp2, zp3]
          refine wpX_f _ (.bool false) rfl rfl (fun X _ => by simp [go_sem]) ?_
          simp only [zp4, zp5, zp6, zp0, zp1, zp2, zp3]
          refine wpX_f _ (.pointer (some ⟨j, 0, none⟩)) rfl rfl (fun X _ => by simp [go_sem]) ?_
          simp only [zp4, zp5, zp6, zp0, zp1, zp2, zp3]
          refine wpX_f _ (.int .i64 ((ofN tn K : Nat) : Int)) rfl rfl (fun X _ => by simp [go_sem]) ?_
          simp only [zp4, zp5, zp6, zp0, zp1, zp2, zp3]
          refine wpX_f _ (.slice (some a) n9 cap) rfl rfl (fun X _ => by simp [go_sem]) ?_
          simp only [zp4, zp5, zp6, zp0, zp1, zp2, zp3]
          refine wpX_f _ (.int .i64 (k : Int)) rfl rfl (fun X _ => by simp [go_sem]) ?_
          simp only [zp4, zp5, zp6, zp0, zp1, zp2, zp3]
          refine wpX_f _ (.pointer (some (a.add (k * 5)))) rfl rfl (fun X _ => by simp [go_sem, k1.out]) ?_
          simp only [zp4, zp5, zp6, zp0, zp1, zp2, zp3]
          refine wpX_f _ (.pointer (some ⟨(a.add (k * 5)).block, (a.add (k * 5)).off + 1, none⟩)) rfl rfl (fun X _ => by simp [go_sem]) ?_
          simp only [zp4, zp5, zp6, zp0, zp1, zp2, zp3]
          refine wpX_f _ (.slice ro n rc) rfl rfl (fun X hX => (by have q := hc1.out X (Ext.trans (Ext.trans q2.out hY.out) hX); simp [go_sem, q])) ?_
          simp only [zp4, zp5, zp6, zp0, zp1, zp2, zp3]
          refine wpX_f _ (.int .i64 (n : Int)) rfl rfl (fun X _ => by simp [go_sem]) ?_
          simp only [zp4, zp5, zp6, zp0, zp1, zp2, zp3]
          refine wpX_f _ (.int .i64 ((ofN tn K + n : Nat) : Int)) rfl rfl (fun X _ => by simp [go_sem, z1.out]) ?_
          simp only [zp4, zp5, zp6, zp0, zp1, zp2, zp3]
          refine wpX_f _ (.int .i64 ((ofN tn K + (n + 2) : Nat) : Int)) rfl rfl (fun X _ => by simp [go_sem, z2.out]) ?_
          simp only [zp4, zp5, zp6, zp0, zp1, zp2, zp3]
          refine wpX_call _ rfl rfl (by simp [go_sem]) ((jused p 0 30 (nx + 1) (ofN tn K + (n + 2)) true j Y.drew hR'.out).mono ?_)
          rintro e y7 ⟨rfl, h8⟩
          replace h8 : Ext Y.drew y7 := by rw [h8]; exact Ext.refl _
          refine ⟨_, rfl, fun X => Ext y7 X, fun X hX => Ext.trans h8 hX, Ext.refl _, ?_⟩
          simp only [zp4, zp5, zp6, zp0, zp1, zp2, zp3]
          replace hR' := hideit (hR'.out.carry h8)
          replace hY := hideit (Ext.trans hY.out (h8))
          clear h8
          refine wpX_f _ (.bool false) rfl rfl (fun X _ => by simp [go_sem]) ?_
          simp only [zp4, zp5, zp6, zp0, zp1, zp2, zp3]
          refine wpX_f _ (.bool false) rfl rfl (fun X _ => by simp [go_sem]) ?_
          simp only [zp4, zp5, zp6, zp0, zp1, zp2, zp3]
          refine wpX_nil ?_
          go_upto_region 19 with (fail)
          refine wp_region_lit ?_
          refine xm [some (.slice oa m9 ca), some (.slice (some a) n9 cap), some (.int .i64 (k : Int)), some (.pointer (some (a.add (k * 5)))), some (.pointer (some ⟨(a.add (k * 5)).block, (a.add (k * 5)).off + 1, none⟩))] (by kernel_rfl) (by simp [xr, go_sem, k1.out]) ?_
          simp only [xw, p0, p1, p2, p3]
          refine xm [some (.slice ro n rc)] (by kernel_rfl) (by simp [xr, go_sem, (hc1.out _ (Ext.trans q2.out hY.out))]) ?_
          simp only [xw, p0, p1, p2, p3]
          obtain ⟨a2, hro1, hro2⟩ := hro
          obtain ⟨v2, Z, r4, hO2, hg, ho⟩ := (q1.out.ext hY.out).catc (n := n) (cap := rc) (bs' := bs) (us' := us2) (hro2 y7 (Ext.trans q2.out hY.out)) (fun i hi => by
            obtain ⟨_, _, e⟩ := (hp1.out i hi).1.form
            rw [e]
            rfl) (by have := Below.size q2.out; have := Below.size hY.out; omega) (by have := hm9.out; omega) 22
          rw [← hro1] at r4
          have hS2 := hideit (hS.out.fin hk9.out hok.out hnf.out hle.out hp1.out (hJ'.out.ext hY.out) (hK'.out.ext hY.out) hF'.out hO2 hg ho)
          obtain ⟨o2, c2, rfl⟩ := hO2.form
          refine wpList_to rfl (.slice o2 (m9 + n) c2) Z (exec_app (.tmp 105) (.tmp 110) rfl rfl rfl r4) ?_
          simp only [zp0, zp1, zp2, zp3]
          have hR2 := hideit hS2.out.jr.row
          clear r4 hO2 hg ho q1 hR' hS hJ' hK' hF' hRL
          refine xm [some (.slice o2 (m9 + n) c2)] (by kernel_rfl) (by simp [xr, go_sem]) ?_
          simp only [xw, p0, p1, p2, p3]
          go_upto_region 20 with (fail)
          refine wp_region_lit ?_
          refine xm [some (.int .u64 (nx.toNat : Int)), some (.int .u64 ((nx + 1).toNat : Int)), some (.int .u64 ((nx + 1).toNat : Int))] (by kernel_rfl) (by simp [xr, go_sem, z3.out]) ?_
          simp only [xw, p0, p1, p2, p3]
          go_upto_region 27 with (fail)
          refine wp_region_lit ?_
          refine xm [some (.pointer (some ⟨j, 0, none⟩))] (by kernel_rfl) (by simp [xr, go_sem]) ?_
          simp only [xw, p0, p1, p2, p3]
          refine wpList_call rfl (by simp [go_sem]) ((jnumber p 0 30 (nx + 1) (ofN (up1 tn K n) (K + 1)) true j Z hR2.out).mono ?_)
          rintro e yy ⟨rfl, hyy⟩
          refine ⟨_, rfl, ?_⟩
          simp only [zp0, zp1, zp2, zp3]
          replace hyy := hyy.symm
          subst hyy
          refine xm [some (.int .u64 ((nx + 1).toNat : Int)), some (.bool false)] (by kernel_rfl) (by simp [xr, go_sem]) ?_
          simp only [xw, p0, p1, p2, p3]
          go_upto_region 11 with (fail)
          refine wp_region_lit ?_
          refine xm [some (.int .i64 (k : Int)), some (.int .i64 ((k + 1 : Nat) : Int)), some (.int .i64 ((k + 1 : Nat) : Int))] (by kernel_rfl) (by simp [xr, go_sem, ek.out]) ?_
          simp only [xw, p0, p1, p2, p3]
          go_wp2
          exact ⟨⟨k + 1, m9 + n, K + 1, nx + 1, _, _, _, _, _, _, _, _, _, _, by omega, rfl, rfl, hS2.out⟩, by simp [intOf]; omega⟩
        · go_upto_region 15 with (fail)
          refine wp_region_lit ?_
          refine xm [some (.pointer (some ⟨j, 0, none⟩)), some (.slice (some a) n9 cap), some (.int .i64 (k : Int)), some (.pointer (some (a.add (k * 5)))), some (.pointer (some ⟨(a.add (k * 5)).block, (a.add (k * 5)).off + 1, none⟩))] (by kernel_rfl) (by simp [xr, go_sem, k1.out]) ?_
          simp only [xw, p0, p1, p2, p3]
          refine xm [some (.slice ro n rc)] (by kernel_rfl) (by simp [xr, go_sem, (hc1.out _ hS.out.ex)]) ?_
          simp only [xw, p0, p1, p2, p3]
          refine wpList_call rfl (by simp [go_sem]) ((append_quiet j p 0 30 nx (ofN tn K) F 60 A D C (.slice ro n rc) n bs us2 ls fs y5 hS.out.jr (hRL.out.ext hE.out) hnn hbi.out hTr.out (by have := hof.out; omega) hC4.out hap).mono ?_)
          rintro e Y ⟨cc, rfl, hcc, hX⟩
          refine ⟨_, rfl, ?_⟩
          simp only [zp0, zp1, zp2, zp3]
          replace hR := hideit (hR.out.carry hX)
          replace hS := hideit (hS.out.ext hX)
          replace hTr := hideit (hTr.out.ext hX)
          replace hE := hideit (Ext.trans hE.out (hX))
          replace hcc := hideit hcc
          clear hX hRL
          refine xm [some (.int .i64 (cc))] (by kernel_rfl) (by simp [xr, go_sem]) ?_
          simp only [xw, p0, p1, p2, p3]
          go_upto_region 16 with (fail)
          refine wp_region_lit ?_
          refine xm [some (.int .i64 (cc)), some (.bool false)] (by kernel_rfl) (by simp [xr, go_sem, hcc.out]) ?_
          simp only [xw, p0, p1, p2, p3]
          go_upto_region 21 with (fail)
          refine wp_region_lit ?_
          refine xm [some (.pointer (some ⟨j, 0, none⟩))] (by kernel_rfl) (by simp [xr, go_sem]) ?_
          simp only [xw, p0, p1, p2, p3]
          refine wpList_call rfl (by simp [go_sem]) ((jused p 0 30 nx (ofN tn K) true j Y hR.out).mono ?_)
          rintro e y7 ⟨rfl, h8⟩
          replace h8 : Ext Y y7 := by rw [h8]; exact Ext.refl _
          refine ⟨_, rfl, ?_⟩
          simp only [zp0, zp1, zp2, zp3]
          replace hR := hideit (hR.out.carry h8)
          replace hS := hideit (hS.out.ext h8)
          replace hTr := hideit (hTr.out.ext h8)
          replace hE := hideit (Ext.trans hE.out (h8))
          clear h8
          refine xm [some (.int .i64 ((ofN tn K : Nat) : Int)), some (.bool false)] (by kernel_rfl) (by simp [xr, go_sem]) ?_
          simp only [xw, p0, p1, p2, p3]
          go_upto_region 27 with (fail)
          refine wp_region_lit ?_
          refine xm [some (.pointer (some ⟨j, 0, none⟩))] (by kernel_rfl) (by simp [xr, go_sem]) ?_
          simp only [xw, p0, p1, p2, p3]
          refine wpList_call rfl (by simp [go_sem]) ((jnumber p 0 30 nx (ofN tn K) true j y7 hR.out).mono ?_)
          rintro e y9 ⟨rfl, h10⟩
          replace h10 : Ext y7 y9 := by rw [h10]; exact Ext.refl _
          refine ⟨_, rfl, ?_⟩
          simp only [zp0, zp1, zp2, zp3]
          replace hR := hideit (hR.out.carry h10)
          replace hS := hideit (hS.out.ext h10)
          replace hTr := hideit (hTr.out.ext h10)
          replace hE := hideit (Ext.trans hE.out (h10))
          clear h10
          refine xm [some (.int .u64 (nx.toNat : Int)), some (.bool false)] (by kernel_rfl) (by simp [xr, go_sem]) ?_
          simp only [xw, p0, p1, p2, p3]
          go_upto_region 11 with (fail)
          refine wp_region_lit ?_
          refine xm [some (.int .i64 (k : Int)), some (.int .i64 ((k + 1 : Nat) : Int)), some (.int .i64 ((k + 1 : Nat) : Int))] (by kernel_rfl) (by simp [xr, go_sem, ek.out]) ?_
          simp only [xw, p0, p1, p2, p3]
          go_wp2
          exact ⟨⟨k + 1, m9, K, nx, _, _, _, _, _, _, _, _, _, _, by omega, rfl, rfl, hS.out.next⟩, by simp [intOf]; omega⟩
      · replace e1 := hideit e1
        go_upto_region 13 with (fail)
        refine wp_region_lit ?_
        refine xm [some (.bool false), some (.bool false)] (by kernel_rfl) (by simp [xr, go_sem, e1.out]) ?_
        simp only [xw, p0, p1, p2, p3]
        by_cases e2 : kd9 = 2
        · subst e2
          clear hkd e1
          go_upto_region 23 with (fail)
          refine wp_region_lit ?_
          refine xm [some (.bool true), some (.bool true)] (by kernel_rfl) (by simp [xr, go_sem]) ?_
          simp only [xw, p0, p1, p2, p3]
          go_upto_region 24 with (fail)
          refine wp_region_lit ?_
          refine xm [some (.pointer (some ⟨j, 0, none⟩))] (by kernel_rfl) (by simp [xr, go_sem]) ?_
          simp only [xw, p0, p1, p2, p3]
          refine wpList_call rfl (by simp [go_sem]) ((reset_ok j p 0 30 nx (ofN tn K) true F 60 A D C wr hS.out.jr hTr.out nx (.inl ⟨rfl, rfl⟩) (fun e => by have := hS.out.lo; rw [e] at this; exact absurd this (by decide)) (by have := hC4.out; omega)).mono ?_)
          rintro e Y ⟨rfl, F', hJ', hK', hF'⟩
          refine ⟨_, rfl, ?_⟩
          simp only [zp0, zp1, zp2, zp3]
          have hS2 := hideit (hS.out.rst hJ' hK' hF')
          have hR2 := hideit hS2.out.jr.row
          clear hJ' hK' hF' hS hR hTr hE
          refine xm [some (.bool false), some (.bool false), some (.pointer (some ⟨j, 0, none⟩))] (by kernel_rfl) (by simp [xr, go_sem]) ?_
          simp only [xw, p0, p1, p2, p3]
          refine wpList_callW rfl (by simp [go_sem]) ((jused p 0 30 nx 0 true j Y hR2.out).mono ?_)
          rintro e yy ⟨rfl, hyy⟩
          refine ⟨_, rfl, ?_⟩
          simp only [zp0, zp1, zp2, zp3]
          replace hyy := hyy.symm
          subst hyy
          refine xm [some (.bool false), some (.bool false)] (by kernel_rfl) (by simp [xr, go_sem]) ?_
          simp only [xw, p0, p1, p2, p3]
          go_upto_region 26 with (fail)
          refine wp_region_lit ?_
          refine xm [some (.slice none 0 0)] (by kernel_rfl) (by simp [xr, go_sem]) ?_
          simp only [xw, p0, p1, p2, p3]
          go_upto_region 27 with (fail)
          refine wp_region_lit ?_
          refine xm [some (.pointer (some ⟨j, 0, none⟩))] (by kernel_rfl) (by simp [xr, go_sem]) ?_
          simp only [xw, p0, p1, p2, p3]
          refine wpList_call rfl (by simp [go_sem]) ((jnumber p 0 30 nx 0 true j Y hR2.out).mono ?_)
          rintro e yy ⟨rfl, hyy⟩
          refine ⟨_, rfl, ?_⟩
          simp only [zp0, zp1, zp2, zp3]
          replace hyy := hyy.symm
          subst hyy
          refine xm [some (.int .u64 (nx.toNat : Int)), some (.bool false)] (by kernel_rfl) (by simp [xr, go_sem]) ?_
          simp only [xw, p0, p1, p2, p3]
          go_upto_region 11 with (fail)
          refine wp_region_lit ?_
          refine xm [some (.int .i64 (k : Int)), some (.int .i64 ((k + 1 : Nat) : Int)), some (.int .i64 ((k + 1 : Nat) : Int))] (by kernel_rfl) (by simp [xr, go_sem, ek.out]) ?_
          simp only [xw, p0, p1, p2, p3]
          go_wp2
          exact ⟨⟨k + 1, 0, 0, nx, _, _, _, _, _, _, _, _, _, _, by omega, rfl, rfl, hS2.out⟩, by simp [intOf]; omega⟩
        · replace e2 := hideit e2
          go_upto_region 23 with (fail)
          refine wp_region_lit ?_
          refine xm [some (.bool false), some (.bool false)] (by kernel_rfl) (by simp [xr, go_sem, e2.out]) ?_
          simp only [xw, p0, p1, p2, p3]
          go_upto_region 27 with (fail)
          refine wp_region_lit ?_
          refine xm [some (.pointer (some ⟨j, 0, none⟩))] (by kernel_rfl) (by simp [xr, go_sem]) ?_
          simp only [xw, p0, p1, p2, p3]
          refine wpList_call rfl (by simp [go_sem]) ((jnumber p 0 30 nx (ofN tn K) true j wr hR.out).mono ?_)
          rintro e y3 ⟨rfl, h4⟩
          replace h4 : Ext wr y3 := by rw [h4]; exact Ext.refl _
          refine ⟨_, rfl, ?_⟩
          simp only [zp0, zp1, zp2, zp3]
          replace hR := hideit (hR.out.carry h4)
          replace hS := hideit (hS.out.ext h4)
          replace hTr := hideit (hTr.out.ext h4)
          replace hE := hideit (Ext.trans hE.out (h4))
          clear h4
          refine xm [some (.int .u64 (nx.toNat : Int)), some (.bool false)] (by kernel_rfl) (by simp [xr, go_sem]) ?_
          simp only [xw, p0, p1, p2, p3]
          go_upto_region 11 with (fail)
          refine wp_region_lit ?_
          refine xm [some (.int .i64 (k : Int)), some (.int .i64 ((k + 1 : Nat) : Int)), some (.int .i64 ((k + 1 : Nat) : Int))] (by kernel_rfl) (by simp [xr, go_sem, ek.out]) ?_
          simp only [xw, p0, p1, p2, p3]
          go_wp2
          exact ⟨⟨k + 1, m9, K, nx, _, _, _, _, _, _, _, _, _, _, by omega, rfl, rfl, hS.out.next⟩, by simp [intOf]; omega⟩
    · have hE := hideit (Ext.refl wr)
      have hEw := hideit hS.out.ex
      by_cases h1 : k < n9
      · have k1 : (k : Int) < (n9 : Int) := by omega
        have k2 : ¬ (k : Int) < 100 := by omega
        go_upto_region 10 with (fail)
        refine wp_region_lit ?_
        refine xm [some (.int .i64 (k : Int)), some (.slice o n9 cap), some (.int .i64 (n9 : Int)), some (.bool true), some (.bool true), some (.int .i64 (k : Int)), some (.bool false), some (.bool false)] (by kernel_rfl) (by simp [xr, go_sem, k1, k2]) ?_
        simp only [xw, p0, p1, p2, p3]
        go_upto_region 29 with (fail)
        refine wp_region_lit ?_
        refine xm [some (.pointer (some ⟨p, 0, none⟩))] (by kernel_rfl) (by simp [xr, go_sem]) ?_
        simp only [xw, p0, p1, p2, p3]
        refine wpList_call rfl (by simp [go_sem]) ((open_sl p 0 30 29 n0 F 60 A D C wr hS.out.jr.dv hTr.out (by decide) (by decide) (by decide) rfl (by have := hC4.out; omega) hS.out.chn.nz hS.out.chn.mrk K tn tb tl tf hS.out.chn.tx hS.out.chn.le hS.out.chn.tail m9 (ofN tn K) nx hS.out.em.symm rfl hS.out.enx.symm).mono ?_)
        rintro e y12 ⟨j2, o5, c5, u5, rfl, hD5, hJ5, _, hX⟩
        refine ⟨_, rfl, ?_⟩
        simp only [zp0, zp1, zp2, zp3]
        replace hR := hideit (hR.out.carry hX)
        replace hS := hideit (hS.out.ext hX)
        replace hTr := hideit (hTr.out.ext hX)
        replace hE := hideit (Ext.trans hE.out (hX))
        have hR2 := hideit hJ5.row
        have hL5 := hideit (ownk_rls hD5.own (fun i hi => ⟨(hD5.byt i hi).1.bv.pv, (hS.out.byt i hi).2⟩))
        have hL6 := hideit (ownk_rls hS.out.own (fun i hi => ⟨(hS.out.byt i hi).1.ext hS.out.ex, (hS.out.byt i hi).2⟩))
        clear hX hJ5 hD5
        refine xm [some (.tuple #[.pointer (some ⟨j2, 0, none⟩), .slice o5 m9 c5, .int .i64 0]), some (.pointer (some ⟨j2, 0, none⟩)), some (.slice o5 m9 c5), some (.int .i64 0), some (.pointer (some ⟨j2, 0, none⟩)), some (.slice o5 m9 c5), some (.int .i64 0)] (by kernel_rfl) (by simp [xr, go_sem]) ?_
        simp only [xw, p0, p1, p2, p3]
        go_upto_region 30 with (fail)
        refine wp_region_lit ?_
        refine xm [some (.int .i64 0), some (.bool true), some (.bool true), some (.pointer (some ⟨j2, 0, none⟩)), some (.bool true), some (.bool true), some (.bool true), some (.slice o5 m9 c5), some (.slice oa m9 ca)] (by kernel_rfl) (by simp [xr, go_sem]) ?_
        simp only [xw, p0, p1, p2, p3]
        refine wpList_callW rfl (by simp [go_sem]) ((samer_any (.slice o5 m9 c5) (.slice oa m9 ca) m9 (caN 0 tn tb K) u5 us (caN 0 tn tl K) (caN (fun _ => 0) tn tf K) y12 hL5.out hL6.out (by have := hm9.out; omega)).mono ?_)
        rintro e y3 ⟨rfl, hX4⟩
        refine ⟨_, rfl, ?_⟩
        simp only [zp0, zp1, zp2, zp3]
        replace hR := hideit (hR.out.carry hX4)
        replace hR2 := hideit (hR2.out.carry hX4)
        replace hL5 := hideit (hL5.out.ext hX4)
        replace hL6 := hideit (hL6.out.ext hX4)
        replace hE := hideit (Ext.trans hE.out (hX4))
        clear hX4
        refine xm [some (.bool true), some (.bool true), some (.pointer (some ⟨j2, 0, none⟩))] (by kernel_rfl) (by simp [xr, go_sem]) ?_
        simp only [xw, p0, p1, p2, p3]
        refine wpList_callW rfl (by simp [go_sem]) ((jnumber p 0 30 nx (ofN tn K) false j2 y3 hR2.out).mono ?_)
        rintro e y5 ⟨rfl, h6⟩
        replace h6 : Ext y3 y5 := by rw [h6]; exact Ext.refl _
        refine ⟨_, rfl, ?_⟩
        simp only [zp0, zp1, zp2, zp3]
        replace hR := hideit (hR.out.carry h6)
        replace hR2 := hideit (hR2.out.carry h6)
        replace hL5 := hideit (hL5.out.ext h6)
        replace hL6 := hideit (hL6.out.ext h6)
        replace hE := hideit (Ext.trans hE.out (h6))
        clear h6
        refine xm [some (.int .u64 (nx.toNat : Int)), some (.bool true), some (.bool true), some (.bool true), some (.pointer (some ⟨j2, 0, none⟩))] (by kernel_rfl) (by simp [xr, go_sem]) ?_
        simp only [xw, p0, p1, p2, p3]
        refine wpList_callW rfl (by simp [go_sem]) ((jused p 0 30 nx (ofN tn K) false j2 y5 hR2.out).mono ?_)
        rintro e y7 ⟨rfl, h8⟩
        replace h8 : Ext y5 y7 := by rw [h8]; exact Ext.refl _
        refine ⟨_, rfl, ?_⟩
        simp only [zp0, zp1, zp2, zp3]
        replace hR := hideit (hR.out.carry h8)
        replace hR2 := hideit (hR2.out.carry h8)
        replace hL5 := hideit (hL5.out.ext h8)
        replace hL6 := hideit (hL6.out.ext h8)
        replace hE := hideit (Ext.trans hE.out (h8))
        clear h8
        refine xm [some (.pointer (some ⟨j, 0, none⟩))] (by kernel_rfl) (by simp [xr, go_sem]) ?_
        simp only [xw, p0, p1, p2, p3]
        refine wpList_callW rfl (by simp [go_sem]) ((jused p 0 30 nx (ofN tn K) true j y7 hR.out).mono ?_)
        rintro e y9 ⟨rfl, h10⟩
        replace h10 : Ext y7 y9 := by rw [h10]; exact Ext.refl _
        refine ⟨_, rfl, ?_⟩
        simp only [zp0, zp1, zp2, zp3]
        replace hR := hideit (hR.out.carry h10)
        replace hR2 := hideit (hR2.out.carry h10)
        replace hL5 := hideit (hL5.out.ext h10)
        replace hL6 := hideit (hL6.out.ext h10)
        replace hE := hideit (Ext.trans hE.out (h10))
        clear h10
        refine xm [some (.bool true), some (.bool true), some (.bool true), some (.pointer (some ⟨j2, 0, none⟩))] (by kernel_rfl) (by simp [xr, go_sem]) ?_
        simp only [xw, p0, p1, p2, p3]
        refine wpList_callW rfl (by simp [go_sem]) ((jroom_no p 0 30 nx (ofN tn K) j2 y9 hR2.out).mono ?_)
        rintro e y11 ⟨rfl, h12⟩
        replace h12 : Ext y9 y11 := by rw [h12]; exact Ext.refl _
        refine ⟨_, rfl, ?_⟩
        simp only [zp0, zp1, zp2, zp3]
        replace hR := hideit (hR.out.carry h12)
        replace hR2 := hideit (hR2.out.carry h12)
        replace hL5 := hideit (hL5.out.ext h12)
        replace hL6 := hideit (hL6.out.ext h12)
        replace hE := hideit (Ext.trans hE.out (h12))
        clear h12
        refine xm [some (.bool true), some (.bool true), some (.bool true), some (.pointer (some ⟨j2, 0, none⟩))] (by kernel_rfl) (by simp [xr, go_sem]) ?_
        simp only [xw, p0, p1, p2, p3]
        refine wpList_callW rfl (by simp [go_sem]) ((jbegun p 0 30 nx (ofN tn K) false j2 y11 hR2.out).mono ?_)
        rintro e y13 ⟨rfl, h14⟩
        replace h14 : Ext y11 y13 := by rw [h14]; exact Ext.refl _
        refine ⟨_, rfl, ?_⟩
        simp only [zp0, zp1, zp2, zp3]
        replace hR := hideit (hR.out.carry h14)
        replace hR2 := hideit (hR2.out.carry h14)
        replace hL5 := hideit (hL5.out.ext h14)
        replace hL6 := hideit (hL6.out.ext h14)
        replace hE := hideit (Ext.trans hE.out (h14))
        clear h14
        refine xm [some (.bool true), some (.bool true), some (.bool true)] (by kernel_rfl) (by simp [xr, go_sem]) ?_
        simp only [xw, p0, p1, p2, p3]
        go_wp2
        go_ret
        exact ⟨rfl, Ext.trans hEw.out hE.out⟩
      · have k1 : ¬ (k : Int) < (n9 : Int) := by omega
        go_upto_region 10 with (fail)
        refine wp_region_lit ?_
        refine xm [some (.int .i64 (k : Int)), some (.slice o n9 cap), some (.int .i64 (n9 : Int)), some (.bool false), some (.bool false), none, none, some (.bool false)] (by kernel_rfl) (by simp [xr, go_sem, k1]) ?_
        simp only [xw, p0, p1, p2, p3]
        go_upto_region 29 with (fail)
        refine wp_region_lit ?_
        refine xm [some (.pointer (some ⟨p, 0, none⟩))] (by kernel_rfl) (by simp [xr, go_sem]) ?_
        simp only [xw, p0, p1, p2, p3]
        refine wpList_call rfl (by simp [go_sem]) ((open_sl p 0 30 29 n0 F 60 A D C wr hS.out.jr.dv hTr.out (by decide) (by decide) (by decide) rfl (by have := hC4.out; omega) hS.out.chn.nz hS.out.chn.mrk K tn tb tl tf hS.out.chn.tx hS.out.chn.le hS.out.chn.tail m9 (ofN tn K) nx hS.out.em.symm rfl hS.out.enx.symm).mono ?_)
        rintro e y12 ⟨j2, o5, c5, u5, rfl, hD5, hJ5, _, hX⟩
        refine ⟨_, rfl, ?_⟩
        simp only [zp0, zp1, zp2, zp3]
        replace hR := hideit (hR.out.carry hX)
        replace hS := hideit (hS.out.ext hX)
        replace hTr := hideit (hTr.out.ext hX)
        replace hE := hideit (Ext.trans hE.out (hX))
        have hR2 := hideit hJ5.row
        have hL5 := hideit (ownk_rls hD5.own (fun i hi => ⟨(hD5.byt i hi).1.bv.pv, (hS.out.byt i hi).2⟩))
        have hL6 := hideit (ownk_rls hS.out.own (fun i hi => ⟨(hS.out.byt i hi).1.ext hS.out.ex, (hS.out.byt i hi).2⟩))
        clear hX hJ5 hD5
        refine xm [some (.tuple #[.pointer (some ⟨j2, 0, none⟩), .slice o5 m9 c5, .int .i64 0]), some (.pointer (some ⟨j2, 0, none⟩)), some (.slice o5 m9 c5), some (.int .i64 0), some (.pointer (some ⟨j2, 0, none⟩)), some (.slice o5 m9 c5), some (.int .i64 0)] (by kernel_rfl) (by simp [xr, go_sem]) ?_
        simp only [xw, p0, p1, p2, p3]
        go_upto_region 30 with (fail)
        refine wp_region_lit ?_
        refine xm [some (.int .i64 0), some (.bool true), some (.bool true), some (.pointer (some ⟨j2, 0, none⟩)), some (.bool true), some (.bool true), some (.bool true), some (.slice o5 m9 c5), some (.slice oa m9 ca)] (by kernel_rfl) (by simp [xr, go_sem]) ?_
        simp only [xw, p0, p1, p2, p3]
        refine wpList_callW rfl (by simp [go_sem]) ((samer_any (.slice o5 m9 c5) (.slice oa m9 ca) m9 (caN 0 tn tb K) u5 us (caN 0 tn tl K) (caN (fun _ => 0) tn tf K) y12 hL5.out hL6.out (by have := hm9.out; omega)).mono ?_)
        rintro e y3 ⟨rfl, hX4⟩
        refine ⟨_, rfl, ?_⟩
        simp only [zp0, zp1, zp2, zp3]
        replace hR := hideit (hR.out.carry hX4)
        replace hR2 := hideit (hR2.out.carry hX4)
        replace hL5 := hideit (hL5.out.ext hX4)
        replace hL6 := hideit (hL6.out.ext hX4)
        replace hE := hideit (Ext.trans hE.out (hX4))
        clear hX4
        refine xm [some (.bool true), some (.bool true), some (.pointer (some ⟨j2, 0, none⟩))] (by kernel_rfl) (by simp [xr, go_sem]) ?_
        simp only [xw, p0, p1, p2, p3]
        refine wpList_callW rfl (by simp [go_sem]) ((jnumber p 0 30 nx (ofN tn K) false j2 y3 hR2.out).mono ?_)
        rintro e y5 ⟨rfl, h6⟩
        replace h6 : Ext y3 y5 := by rw [h6]; exact Ext.refl _
        refine ⟨_, rfl, ?_⟩
        simp only [zp0, zp1, zp2, zp3]
        replace hR := hideit (hR.out.carry h6)
        replace hR2 := hideit (hR2.out.carry h6)
        replace hL5 := hideit (hL5.out.ext h6)
        replace hL6 := hideit (hL6.out.ext h6)
        replace hE := hideit (Ext.trans hE.out (h6))
        clear h6
        refine xm [some (.int .u64 (nx.toNat : Int)), some (.bool true), some (.bool true), some (.bool true), some (.pointer (some ⟨j2, 0, none⟩))] (by kernel_rfl) (by simp [xr, go_sem]) ?_
        simp only [xw, p0, p1, p2, p3]
        refine wpList_callW rfl (by simp [go_sem]) ((jused p 0 30 nx (ofN tn K) false j2 y5 hR2.out).mono ?_)
        rintro e y7 ⟨rfl, h8⟩
        replace h8 : Ext y5 y7 := by rw [h8]; exact Ext.refl _
        refine ⟨_, rfl, ?_⟩
        simp only [zp0, zp1, zp2, zp3]
        replace hR := hideit (hR.out.carry h8)
        replace hR2 := hideit (hR2.out.carry h8)
        replace hL5 := hideit (hL5.out.ext h8)
        replace hL6 := hideit (hL6.out.ext h8)
        replace hE := hideit (Ext.trans hE.out (h8))
        clear h8
        refine xm [some (.pointer (some ⟨j, 0, none⟩))] (by kernel_rfl) (by simp [xr, go_sem]) ?_
        simp only [xw, p0, p1, p2, p3]
        refine wpList_callW rfl (by simp [go_sem]) ((jused p 0 30 nx (ofN tn K) true j y7 hR.out).mono ?_)
        rintro e y9 ⟨rfl, h10⟩
        replace h10 : Ext y7 y9 := by rw [h10]; exact Ext.refl _
        refine ⟨_, rfl, ?_⟩
        simp only [zp0, zp1, zp2, zp3]
        replace hR := hideit (hR.out.carry h10)
        replace hR2 := hideit (hR2.out.carry h10)
        replace hL5 := hideit (hL5.out.ext h10)
        replace hL6 := hideit (hL6.out.ext h10)
        replace hE := hideit (Ext.trans hE.out (h10))
        clear h10
        refine xm [some (.bool true), some (.bool true), some (.bool true), some (.pointer (some ⟨j2, 0, none⟩))] (by kernel_rfl) (by simp [xr, go_sem]) ?_
        simp only [xw, p0, p1, p2, p3]
        refine wpList_callW rfl (by simp [go_sem]) ((jroom_no p 0 30 nx (ofN tn K) j2 y9 hR2.out).mono ?_)
        rintro e y11 ⟨rfl, h12⟩
        replace h12 : Ext y9 y11 := by rw [h12]; exact Ext.refl _
        refine ⟨_, rfl, ?_⟩
        simp only [zp0, zp1, zp2, zp3]
        replace hR := hideit (hR.out.carry h12)
        replace hR2 := hideit (hR2.out.carry h12)
        replace hL5 := hideit (hL5.out.ext h12)
        replace hL6 := hideit (hL6.out.ext h12)
        replace hE := hideit (Ext.trans hE.out (h12))
        clear h12
        refine xm [some (.bool true), some (.bool true), some (.bool true), some (.pointer (some ⟨j2, 0, none⟩))] (by kernel_rfl) (by simp [xr, go_sem]) ?_
        simp only [xw, p0, p1, p2, p3]
        refine wpList_callW rfl (by simp [go_sem]) ((jbegun p 0 30 nx (ofN tn K) false j2 y11 hR2.out).mono ?_)
        rintro e y13 ⟨rfl, h14⟩
        replace h14 : Ext y11 y13 := by rw [h14]; exact Ext.refl _
        refine ⟨_, rfl, ?_⟩
        simp only [zp0, zp1, zp2, zp3]
        replace hR := hideit (hR.out.carry h14)
        replace hR2 := hideit (hR2.out.carry h14)
        replace hL5 := hideit (hL5.out.ext h14)
        replace hL6 := hideit (hL6.out.ext h14)
        replace hE := hideit (Ext.trans hE.out (h14))
        clear h14
        refine xm [some (.bool true), some (.bool true), some (.bool true)] (by kernel_rfl) (by simp [xr, go_sem]) ?_
        simp only [xw, p0, p1, p2, p3]
        go_wp2
        go_ret
        exact ⟨rfl, Ext.trans hEw.out hE.out⟩
end Go.Proofs.YtiakkclabgelfaaDoor
