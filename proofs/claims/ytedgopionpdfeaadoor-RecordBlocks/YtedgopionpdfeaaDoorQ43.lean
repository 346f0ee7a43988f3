/-
  The document's Blocks, where they may be. Parse, for the longest lists.
-/
import Derived.Test.YtedgopionpdfeaaDoorQ42
import Derived.Test.YtedgopionpdfeaaDoorQ41
namespace Go.Proofs.YtedgopionpdfeaaDoor
open Go.RowKit Go.BigFrame
set_option linter.unusedVariables false
set_option maxRecDepth 20000 in
set_option maxHeartbeats 4000000 in
theorem rb_ok (x : BitVec 64) (v0 : Value) (n : Nat) (bs : Nat → Int) (us : Nat → Value) (ls : Nat → Nat) (fs : Nat → Nat → BitVec 8) (w : World) (hL : RLs v0 n bs us ls fs w) (hbi : ∀ i, i < n → okI (bs i)) (hn : n ≤ 4398046511104) (hT : TabC w) (hok : okT x n bs ls fs) : Calls Tryd.prog 9 #[.int .u64 (x.toNat : Int), v0] w fun e w' => ∃ v us', e = .returned (.tuple #[v, .int .i64 0]) ∧ QLs w.heap.size v (n + 2) us' (trF x (tmK ls fs n) n bs fs) w' ∧ Ext w w' := by
  obtain ⟨hmay, hodd⟩ := id hok
  obtain ⟨hx0, hn1, hn64, _, hrb⟩ := id hmay
  have hls : Hid (∀ i, i < n → ls i = 512) := fun i hi => Classical.byContradiction fun h => hodd ⟨i, hi, h⟩
  clear hodd hmay
  have x0 : ¬ x.toNat = 0 := fun e => hx0 (u0.1 e)
  obtain ⟨o, cap, rfl⟩ := hL.form
  replace hL := hideit hL
  replace hbi := hideit hbi
  replace hn := hideit hn
  replace hok := hideit hok
  replace hrb := hideit hrb
  replace hT := hideit hT
  clear hx0
  go_enter Tryd.func9, Tryd.ntmps9
  go_wp2
  go_loopw [6, 7] (fun v i X => ∃ k : Nat, k ≤ n ∧ i = .int .i64 (k : Int) ∧ GI w v k bs X) (fun _ i _ => 4398046511104 - (intOf i).toNat)
  case atStart => exact ⟨0, Nat.zero_le _, rfl, GI.nil w (Ext.refl w) bs⟩
  case round =>
    obtain ⟨k, hk, rfl, hG⟩ := hrel
    have hX := hideit hG.2
    obtain ⟨vo, vc, rfl⟩ := hG.form fun j hj => hbi.out j (by omega)
    replace hG := hideit hG
    by_cases hlt : k < n
    · have k1 : (k : Int) < (n : Int) := by omega
      have ek : IntKind.i64.wrap ((k : Int) + 1) = ((k + 1 : Nat) : Int) := by have := hn.out; rw [IntKind.wrap_i64]; omega
      obtain ⟨a, rfl, _⟩ := hL.out.at k hlt
      have hel : Hid (∀ X, Ext w X → X.cell? (a.add (k * 2)) = some (.int .i64 (bs k)) ∧ X.cell? ⟨(a.add (k * 2)).block, (a.add (k * 2)).off + 1, none⟩ = some (us k)) := fun X hX' => by
        obtain ⟨_, e1, q1⟩ := (hL.out.ext hX').at k hlt
        injection e1 with e1
        subst e1
        exact ⟨by have := q1.1 0 (by decide); rwa [add_zero'] at this, by have := q1.1 1 (by decide); rwa [add_one'] at this⟩
      obtain ⟨bo, bc, hbu⟩ := (hL.out.2 k hlt).1.form
      rw [hls.out k hlt] at hbu
      have c0 := (hel.out wr hX.out).1
      replace hlt := hideit hlt
      replace hbu := hideit hbu
      go_upto_region 3 with (fail)
      refine wp_region_lit ?_
      refine xm [some (.int .i64 (k : Int)), some (.slice (some a) n cap), some (.int .i64 (n : Int)), some (.bool true)] (by kernel_rfl) (by simp [xr, go_sem, k1]) ?_
      simp only [xw, p0, p1, p2, p3]
      go_upto_region 5 with (fail)
      refine wp_region_lit ?_
      refine xm [some (.slice vo k vc), some (.slice (some a) n cap), some (.int .i64 (k : Int)), some (.pointer (some (a.add (k * 2)))), some (.pointer (some (a.add (k * 2)))), some (.int .i64 (bs k))] (by kernel_rfl) (by simp [xr, go_sem, k1, c0]) ?_
      simp only [xw, p0, p1, p2, p3]
      have N1 := hideit (RowAt.new wr 1 (fun _ => .int .i64 (bs k)) 3)
      have XN : Ext wr (wr.alloc (.cells (row 1 fun _ => .int .i64 (bs k)).toArray 3)) := (Below.refl _ _).alloc (Nat.le_refl _) _
      refine wpList_to rfl (.slice (some ⟨wr.heap.size, 0, none⟩) 1 1) (wr.alloc (.cells (row 1 fun _ => .int .i64 (bs k)).toArray 3)) (by simp [go_sem, row]) ?_
      simp only [Act.put, List.setIfInBounds_toArray, List.set_cons_zero, List.set_cons_succ]
      replace hG := hideit (hG.out.ext XN)
      clear XN c0
      generalize wr.alloc (.cells (row 1 fun _ => .int .i64 (bs k)).toArray 3) = x9 at N1 hG ⊢
      obtain ⟨g9, hg9⟩ : ∃ g, g = wr.heap.size := ⟨_, rfl⟩
      rw [← hg9] at N1 ⊢
      clear hg9
      refine wpList_giB rfl (.tmp 21) (.tmp 27) rfl rfl hG.out g9 (bs k) rfl N1.out rfl (by have := hn.out; omega) ?_
      intro v5 w5 hG5
      simp only [Act.put, List.setIfInBounds_toArray, List.set_cons_zero, List.set_cons_succ]
      have hX5 := hideit hG5.2
      replace hG5 := hideit hG5
      have c1 := (hel.out w5 hX5.out).2
      rw [hbu.out] at c1
      clear hG N1 hX
      refine xm [some (v5)] (by kernel_rfl) (by simp [xr, go_sem]) ?_
      simp only [xw, p0, p1, p2, p3]
      go_upto_region 6 with (fail)
      refine wp_region_lit ?_
      refine xm [some (.slice (some a) n cap), some (.int .i64 (k : Int)), some (.pointer (some (a.add (k * 2)))), some (.pointer (some ⟨(a.add (k * 2)).block, (a.add (k * 2)).off + 1, none⟩)), some (.slice bo 512 bc), some (.int .i64 512), some (.bool false)] (by kernel_rfl) (by simp [xr, go_sem, k1, c1]) ?_
      simp only [xw, p0, p1, p2, p3]
      clear c1
      go_upto_region 4 with (fail)
      refine wp_region_lit ?_
      refine xm [some (.int .i64 (k : Int)), some (.int .i64 ((k + 1 : Nat) : Int)), some (.int .i64 ((k + 1 : Nat) : Int))] (by kernel_rfl) (by simp [xr, go_sem, ek]) ?_
      simp only [xw, p0, p1, p2, p3]
      go_wp2
      exact ⟨⟨k + 1, by have := hlt.out; omega, rfl, hG5.out⟩, by have := hlt.out; have := hn.out; simp [intOf]; omega⟩
    · obtain rfl : k = n := by omega
      have k1 : ¬ (k : Int) < (k : Int) := by omega
      have g64 : ¬ (64 : Int) < (k : Int) := by omega
      replace hT := hideit (hT.out.ext hX.out)
      go_upto_region 3 with (fail)
      refine wp_region_lit ?_
      refine xm [some (.int .i64 (k : Int)), some (.slice o k cap), some (.int .i64 (k : Int)), some (.bool false)] (by kernel_rfl) (by simp [xr, go_sem, k1]) ?_
      simp only [xw, p0, p1, p2, p3]
      go_upto_region 8 with (fail)
      refine wp_region_lit ?_
      refine xm [some (.int .u64 (x.toNat : Int)), some (.bool false), some (.bool false), some (.slice vo k vc), some (.int .i64 (k : Int)), some (.bool false), some (.bool false), some (.bool false), some (.slice vo k vc)] (by kernel_rfl) (by simp [xr, go_sem, x0, g64]) ?_
      simp only [xw, p0, p1, p2, p3]
      refine wpList_callW rfl (by simp [go_sem]) ((rright_any (.slice vo k vc) k bs wr (hG.out.il fun j hj => hbi.out j hj) hn64 true (iff_of_true rfl ⟨hrb.out, hn1⟩)).mono ?_)
      rintro e y1 ⟨rfl, hX2⟩
      refine ⟨_, rfl, ?_⟩
      simp only [Act.put, List.setIfInBounds_toArray, List.set_cons_zero, List.set_cons_succ]
      replace hG := hideit (hG.out.ext hX2)
      replace hT := hideit (hT.out.ext hX2)
      replace hX := hideit (Ext.trans hX.out hX2)

      clear hX2
      refine xm [some (.bool false), some (.bool false)] (by kernel_rfl) (by simp [xr, go_sem]) ?_
      simp only [xw, p0, p1, p2, p3]
      clear x0 k1 g64
      obtain ⟨t0, ht0⟩ : ∃ t, t = tmK ls fs 0 := ⟨_, rfl⟩
      replace ht0 := hideit ht0
      replace hL := hideit (hL.out.ext hX.out)
      replace hT := hideit hT.out
      have hT0 := hT
      have hX0 := hX
      clear hn
      go_upto_region 13 with (fail)
      go_loopw [8, 9, 10] (fun t v i X => ∃ j : Nat, ∃ us', j ≤ k ∧ i = .int .i64 (j : Int) ∧ t = .int .u64 ((tmK ls fs j).toNat : Int) ∧ QLs y1.heap.size v j us' (fun i => stF 512 (fs i)) X ∧ Ext y1 X) (fun _ _ i _ => 100 - (intOf i).toNat)
      case atStart => exact ⟨0, us, Nat.zero_le _, rfl, rfl, QLs.nil _ _ _ _, Ext.refl _⟩
      case round =>

        obtain ⟨j, us', hj, rfl, rfl, hQ, hE⟩ := hrel
        obtain ⟨qo, qc, rfl⟩ := hQ.form
        by_cases hlt : j < k
        · have k1 : (j : Int) < (k : Int) := by omega
          have ek : IntKind.i64.wrap ((j : Int) + 1) = ((j + 1 : Nat) : Int) := by rw [IntKind.wrap_i64]; omega
          obtain ⟨a, rfl, _⟩ := hL.out.at j hlt
          have c1 : wr.cell? ⟨(a.add (j * 2)).block, (a.add (j * 2)).off + 1, none⟩ = some (us j) := by
            obtain ⟨_, e1, q1⟩ := (hL.out.ext hE).at j hlt
            injection e1 with e1
            subst e1
            have := q1.1 1 (by decide)
            rwa [add_one'] at this
          have hpv := ((hL.out.ext hE).2 j hlt).1
          rw [hls.out j hlt] at hpv
          obtain ⟨bo, bc, hbu⟩ := hpv.form
          rw [hbu] at c1 hpv
          have hbv := hpv.bv (by decide)
          clear hpv hbu
          replace hQ := hideit hQ
          replace hE := hideit hE
          replace hlt := hideit hlt
          have XN : Ext wr (wr.alloc (.cells #[] 5)) := (Below.refl _ _).alloc (Nat.le_refl _) _
          have G0 := hideit (GB.empty wr (Ext.refl wr) (fs j))
          replace hbv := hideit (hbv.ext XN)
          have c2 := cell_ext' XN c1
          clear c1
          go_upto_region 13 with (fail)
          refine wp_region_lit ?_
          refine xm [some (.int .i64 (j : Int)), some (.slice (some a) k cap), some (.int .i64 (k : Int)), some (.bool true)] (by kernel_rfl) (by simp [xr, go_sem, k1]) ?_
          simp only [xw, p0, p1, p2, p3]
          go_upto_region 15 with (fail)
          refine wp_region_lit ?_
          refine wpList_to rfl (.slice (some ⟨wr.heap.size, 0, none⟩) 0 0) (wr.alloc (.cells #[] 5)) (by simp [go_sem]) ?_
          simp only [Act.put, List.setIfInBounds_toArray, List.set_cons_zero, List.set_cons_succ]
          clear XN
          generalize wr.alloc (.cells #[] 5) = x1 at G0 hbv c2 ⊢
          obtain ⟨g, hg⟩ : ∃ g, g = wr.heap.size := ⟨_, rfl⟩
          rw [← hg] at G0 ⊢
          clear hg
          refine xm [some (.slice (some a) k cap), some (.int .i64 (j : Int)), some (.pointer (some (a.add (j * 2)))), some (.pointer (some ⟨(a.add (j * 2)).block, (a.add (j * 2)).off + 1, none⟩)), some (.slice bo 512 bc)] (by kernel_rfl) (by simp [xr, go_sem, k1, c2]) ?_
          simp only [xw, p0, p1, p2, p3]
          refine wpList_gb rfl (.tmp 54) (.tmp 59) rfl rfl G0.out (.slice bo 512 bc) 512 (fs j) rfl hbv.out (by decide) ?_
          intro v2 x2 hG2
          replace hG2 : GB wr v2 512 (fs j) x2 := hG2.congr (by decide) fun q hq => by unfold catF; rw [if_neg (by omega), Nat.sub_zero]
          obtain ⟨d, dc, rfl, hd, hdc, _, hR⟩ := hG2.1.lies (by decide)
          simp only [Act.put, List.setIfInBounds_toArray, List.set_cons_zero, List.set_cons_succ]
          have hX2 := hideit hG2.2
          have hu := hideit hG2.bv
          replace hR := hideit hR
          clear G0 hbv hG2 c2
          refine xm [some (.slice (some ⟨d, 0, none⟩) 512 dc)] (by kernel_rfl) (by simp [xr, go_sem]) ?_
          simp only [xw, p0, p1, p2, p3]
          cases hlk : like 512 (fs j) with
          | true =>
            go_upto_region 16 with (fail)
            refine wp_region_lit ?_
            refine xm [some (.slice (some ⟨d, 0, none⟩) 512 dc)] (by kernel_rfl) (by simp [xr, go_sem]) ?_
            simp only [xw, p0, p1, p2, p3]
            refine wpList_call rfl (by simp [go_sem]) ((rlike_any (.slice (some ⟨d, 0, none⟩) 512 dc) 512 (fs j) x2 hu.out (by decide)).mono ?_)
            rintro e y3 ⟨rfl, hX4⟩
            refine ⟨_, rfl, ?_⟩
            simp only [Act.put, List.setIfInBounds_toArray, List.set_cons_zero, List.set_cons_succ]
            replace hR := hideit (hR.out.carry hX4)
            replace hu := hideit (hu.out.ext hX4)
            replace hX2 := hideit (Ext.trans hX2.out hX4)
            rw [hlk]
            clear hX4
            go_upto_region 17 with (fail)
            refine wp_region_lit ?_
            refine xm [some (.slice (some ⟨d, 0, none⟩) 512 dc)] (by kernel_rfl) (by simp [xr, go_sem]) ?_
            simp only [xw, p0, p1, p2, p3]
            have hsz := hideit (Below.size hX2.out)
            refine wpList_call rfl (by simp [go_sem]) ((rturn_any (.slice (some ⟨d, 0, none⟩) 512 dc) (fs j) y3 hu.out).mono ?_)
            rintro e x3 ⟨e3, ec, rfl, hec, he3, hR3, hX3⟩
            refine ⟨_, rfl, ?_⟩
            simp only [Act.put, List.setIfInBounds_toArray, List.set_cons_zero, List.set_cons_succ]
            replace hR := hideit (hR.out.carry hX3)
            replace hu := hideit (hu.out.ext hX3)
            replace hX2 := hideit (Ext.trans hX2.out hX3)
            have hR3 := hideit hR3
            have he3 := hideit he3
            have hec := hideit hec
            refine xm [some (.slice (some ⟨e3, 0, none⟩) 512 ec)] (by kernel_rfl) (by simp [xr, go_sem]) ?_
            simp only [xw, p0, p1, p2, p3]
            have os := one_shl j
            rw [show min j 64 = j by have := hlt.out; omega] at os
            have on := or_nat (tmK ls fs j) (1#64 <<< j)
            obtain ⟨sa, hsa⟩ : ∃ s, s = 1#64 <<< j := ⟨_, rfl⟩
            rw [← hsa] at os on
            replace hsa := hideit hsa
            go_upto_region 18 with (fail)
            refine wp_region_lit ?_
            refine xm [some (.int .u64 ((tmK ls fs j).toNat : Int)), some (.int .i64 (j : Int)), some (.int .u64 (sa.toNat : Int)), some (.int .u64 ((tmK ls fs j ||| sa).toNat : Int)), some (.int .u64 ((tmK ls fs j ||| sa).toNat : Int))] (by kernel_rfl) (by simp [xr, go_sem, os, on]) ?_
            simp only [xw, p0, p1, p2, p3]
            clear os on
            have hQ2 := hQ.out.ext (hX2.out)
            obtain ⟨v4, x4, r4, hQ4, hB4⟩ := hQ2.app1 (Nat.le_trans (Below.size hE.out) (Below.size (hX2.out))) ⟨e3, 0, none⟩ ec (tuF (fs j)) (hec.out) (hR3.out.lie 512 (Nat.le_refl _)) (fun e => by
              have := (hQ.out.own.lt e3 e).2
              have := he3.out; have := hsz.out
              omega) (by omega) 24
            have hE4 := hideit (below_ext (Ext.trans hE.out (hX2.out)) (Nat.le_refl _) hB4)
            have hQ5 : Hid (QLs y1.heap.size v4 (j + 1) (up1 us' j (.slice (some ⟨e3, 0, none⟩) 512 ec)) (fun i => stF 512 (fs i)) x4) := hQ4.congr fun i hi q hq => by
              by_cases e : i = j
              · subst e
                rw [up1_same]
                exact st_tu hlk q
              · rw [up1_other _ e]
            clear hQ2 hQ4 hB4
            go_upto_region 19 with (fail)
            refine wp_region_lit ?_
            refine xm [some (.slice qo j qc), some (.slice (some ⟨e3, 0, none⟩) 512 ec)] (by kernel_rfl) (by simp [xr, go_sem]) ?_
            simp only [xw, p0, p1, p2, p3]
            refine wpList_to rfl (.slice (some ⟨x3.heap.size, 0, none⟩) 1 1) (x3.alloc (.cells #[.slice (some ⟨e3, 0, none⟩) 512 ec] 34)) (by simp [go_sem]) ?_
            simp only [Act.put, List.setIfInBounds_toArray, List.set_cons_zero, List.set_cons_succ]
            refine wpList_to rfl v4 x4 (exec_app (.tmp 69) (.tmp 71) rfl rfl rfl r4) ?_
            simp only [Act.put, List.setIfInBounds_toArray, List.set_cons_zero, List.set_cons_succ]
            clear r4
            refine xm [some (v4)] (by kernel_rfl) (by simp [xr, go_sem]) ?_
            simp only [xw, p0, p1, p2, p3]
            go_upto_region 14 with (fail)
            refine wp_region_lit ?_
            refine xm [some (.int .i64 (j : Int)), some (.int .i64 ((j + 1 : Nat) : Int)), some (.int .i64 ((j + 1 : Nat) : Int))] (by kernel_rfl) (by simp [xr, go_sem, ek]) ?_
            simp only [xw, p0, p1, p2, p3]
            go_wp2
            exact ⟨⟨j + 1, _, by have := hlt.out; omega, rfl, by rw [show tmK ls fs (j + 1) = if like (ls j) (fs j) = true then tmK ls fs j ||| (1#64 <<< j) else tmK ls fs j from rfl, hls.out j hlt.out, if_pos hlk, hsa.out], hQ5.out, hE4.out⟩, by have := hlt.out; simp [intOf]; omega⟩
          | false =>
            go_upto_region 16 with (fail)
            refine wp_region_lit ?_
            refine xm [some (.slice (some ⟨d, 0, none⟩) 512 dc)] (by kernel_rfl) (by simp [xr, go_sem]) ?_
            simp only [xw, p0, p1, p2, p3]
            refine wpList_call rfl (by simp [go_sem]) ((rlike_any (.slice (some ⟨d, 0, none⟩) 512 dc) 512 (fs j) x2 hu.out (by decide)).mono ?_)
            rintro e y3 ⟨rfl, hX4⟩
            refine ⟨_, rfl, ?_⟩
            simp only [Act.put, List.setIfInBounds_toArray, List.set_cons_zero, List.set_cons_succ]
            replace hR := hideit (hR.out.carry hX4)
            replace hu := hideit (hu.out.ext hX4)
            replace hX2 := hideit (Ext.trans hX2.out hX4)
            rw [hlk]
            clear hX4
            have hQ2 := hQ.out.ext (hX2.out)
            obtain ⟨v4, x4, r4, hQ4, hB4⟩ := hQ2.app1 (Nat.le_trans (Below.size hE.out) (Below.size (hX2.out))) ⟨d, 0, none⟩ dc (fs j) (hdc) (hR.out.lie 512 (Nat.le_refl _)) (fun e => by
              have := (hQ.out.own.lt d e).2
              have := hd
              omega) (by omega) 24
            have hE4 := hideit (below_ext (Ext.trans hE.out (hX2.out)) (Nat.le_refl _) hB4)
            have hQ5 : Hid (QLs y1.heap.size v4 (j + 1) (up1 us' j (.slice (some ⟨d, 0, none⟩) 512 dc)) (fun i => stF 512 (fs i)) x4) := hQ4.congr fun i hi q hq => by
              by_cases e : i = j
              · subst e
                rw [up1_same]
                rw [st_no hlk]
              · rw [up1_other _ e]
            clear hQ2 hQ4 hB4
            go_upto_region 19 with (fail)
            refine wp_region_lit ?_
            refine xm [some (.slice qo j qc), some (.slice (some ⟨d, 0, none⟩) 512 dc)] (by kernel_rfl) (by simp [xr, go_sem]) ?_
            simp only [xw, p0, p1, p2, p3]
            refine wpList_to rfl (.slice (some ⟨y3.heap.size, 0, none⟩) 1 1) (y3.alloc (.cells #[.slice (some ⟨d, 0, none⟩) 512 dc] 34)) (by simp [go_sem]) ?_
            simp only [Act.put, List.setIfInBounds_toArray, List.set_cons_zero, List.set_cons_succ]
            refine wpList_to rfl v4 x4 (exec_app (.tmp 69) (.tmp 71) rfl rfl rfl r4) ?_
            simp only [Act.put, List.setIfInBounds_toArray, List.set_cons_zero, List.set_cons_succ]
            clear r4
            refine xm [some (v4)] (by kernel_rfl) (by simp [xr, go_sem]) ?_
            simp only [xw, p0, p1, p2, p3]
            go_upto_region 14 with (fail)
            refine wp_region_lit ?_
            refine xm [some (.int .i64 (j : Int)), some (.int .i64 ((j + 1 : Nat) : Int)), some (.int .i64 ((j + 1 : Nat) : Int))] (by kernel_rfl) (by simp [xr, go_sem, ek]) ?_
            simp only [xw, p0, p1, p2, p3]
            go_wp2
            exact ⟨⟨j + 1, _, by have := hlt.out; omega, rfl, by rw [show tmK ls fs (j + 1) = if like (ls j) (fs j) = true then tmK ls fs j ||| (1#64 <<< j) else tmK ls fs j from rfl, hls.out j hlt.out, if_neg (by rw [hlk]; decide)], hQ5.out, hE4.out⟩, by have := hlt.out; simp [intOf]; omega⟩
        · obtain rfl : j = k := by omega
          have k1 : ¬ (j : Int) < (j : Int) := by omega
          replace hG := hideit (hG.out.ext hE)
          replace hT := hideit (hT.out.ext hE)
          replace hX := hideit (Ext.trans hX.out hE)
          replace hE := hideit hE
          replace hQ := hideit hQ
          clear hL
          go_upto_region 13 with (fail)
          refine wp_region_lit ?_
          refine xm [some (.int .i64 (j : Int)), some (.slice o j cap), some (.int .i64 (j : Int)), some (.bool false)] (by kernel_rfl) (by simp [xr, go_sem, k1]) ?_
          simp only [xw, p0, p1, p2, p3]
          go_upto_region 20 with (fail)
          refine wp_region_lit ?_
          refine xm [some (.int .u64 (x.toNat : Int)), some (.slice vo j vc), some (.int .u64 ((tmK ls fs j).toNat : Int))] (by kernel_rfl) (by simp [xr, go_sem]) ?_
          simp only [xw, p0, p1, p2, p3]
          refine wpList_call rfl (by simp [go_sem]) ((rplan_any x (tmK ls fs j) (.slice vo j vc) j bs wr (hG.out.il fun i hi => hbi.out i hi) hn64 (fun i hi => (hrb.out i hi).1)).mono ?_)
          rintro e x3 ⟨u, rfl, hu, hX3⟩
          refine ⟨_, rfl, ?_⟩
          simp only [Act.put, List.setIfInBounds_toArray, List.set_cons_zero, List.set_cons_succ]
          replace hG := hideit (hG.out.ext hX3)
          replace hT := hideit (hT.out.ext hX3)
          replace hQ := hideit (hQ.out.ext hX3)
          replace hE := hideit (Ext.trans hE.out hX3)
          obtain ⟨pa, pc, rfl⟩ := hu.nonnil (by decide)
          rcases hu with ⟨q, _⟩ | ⟨pa', pc', q, hpc, hpl⟩
          · cases q
          injection q with q1 q2 q3
          injection q1 with q1
          subst q1 q3
          clear q2
          replace hpc := hideit hpc
          replace hpl := hideit hpl
          have O1 := QLs.one (B := y1.heap.size) (f := fun _ => planF x (tmK ls fs j) j bs) (Below.size hE.out) hpc.out hpl.out
          have XN : Ext x3 (x3.alloc (.cells #[.slice (some pa) 512 pc] 34)) := (Below.refl _ _).alloc (Nat.le_refl _) _
          obtain ⟨g5, hg5⟩ : ∃ g, g = x3.heap.size := ⟨_, rfl⟩
          have hB5 : Hid (x3.heap.size ≤ g5) := by rw [hg5]; exact Nat.le_refl _
          refine wpList_to rfl (.slice (some ⟨g5, 0, none⟩) 1 1) (x3.alloc (.cells #[.slice (some pa) 512 pc] 34)) (by simp [go_sem, hg5]) ?_
          simp only [Act.put, List.setIfInBounds_toArray, List.set_cons_zero, List.set_cons_succ]
          rw [← hg5] at O1
          clear hg5 hpc hpl
          have hQ3 := hQ.out
          have hlt3 : Hid (∀ i, i < j → ∃ z c, us' i = .slice (some z) 512 c ∧ z.block < x3.heap.size) := fun i hi => by
            obtain ⟨z, c, q1, _, q3, _⟩ := hQ3.byt i hi
            exact ⟨z, c, q1, q3.2⟩
          replace hQ := hideit (hQ.out.ext XN)
          replace hE := hideit (Ext.trans hE.out XN)
          replace hT := hideit (hT.out.ext XN)
          clear XN hQ3
          generalize x3.alloc (.cells #[.slice (some pa) 512 pc] 34) = x5 at O1 hQ hE hT ⊢
          replace O1 := hideit O1
          refine xm [some (.slice qo j qc)] (by kernel_rfl) (by simp [xr, go_sem]) ?_
          simp only [xw, p0, p1, p2, p3]
          obtain ⟨qg, qc2, hq, _, hqc, hqR⟩ := hQ.out.at hn1
          injection hq with hq1 _ hq3
          subst hq1 hq3
          obtain ⟨v6, x6, r6, hQ6, hB6⟩ := O1.out.appL (Below.size hE.out) j ⟨qg, 0, none⟩ qc us' (fun i => stF 512 (fs i)) (fun i hi => by rw [add0]; exact hqR.1 i hi) (fun i hi => by
            obtain ⟨z, c, q1, q2, q3, _⟩ := hQ.out.byt i hi
            refine ⟨z, c, q1, q2, q3, fun q => ?_⟩
            obtain ⟨z', c', p1, p2⟩ := hlt3.out i hi
            rw [q1] at p1
            injection p1 with p1
            injection p1 with p1
            subst p1
            have q : g5 = z.block := Option.some.inj q
            have := hB5.out
            omega) (by omega) 24
          refine wpList_to rfl v6 x6 (exec_app (.tmp 77) (.tmp 78) rfl rfl rfl r6) ?_
          simp only [Act.put, List.setIfInBounds_toArray, List.set_cons_zero, List.set_cons_succ]
          replace hX := hideit (below_ext (Ext.trans hX0.out hE.out) (Below.size hX0.out) hB6)
          have hE6 := hideit (below_ext hE.out (Nat.le_refl _) hB6)
          replace hT := hideit (hT0.out.ext hE6.out)
          obtain ⟨us6, hus6⟩ : ∃ u, u = cut2 1 (fun _ => Value.slice (some pa) 512 pc) us' := ⟨_, rfl⟩
          rw [← hus6] at hQ6
          have hQ7 : Hid (QLs y1.heap.size v6 (j + 1) us6 (bkF x (tmK ls fs j) j bs fs) x6) := by
            rw [Nat.add_comm]
            exact hQ6.congr fun i hi q hq => by
              unfold cut2 bkF
              by_cases c : i = 0
              · rw [if_pos (by omega), if_pos c]
              · rw [if_neg (by omega), if_neg c]
          clear r6 hQ6 hB6 hqR hQ O1 hus6 hB5 hlt3 hE
          obtain ⟨wo, wc, rfl⟩ := hQ7.out.form
          refine xm [some (.slice wo (j + 1) wc)] (by kernel_rfl) (by simp [xr, go_sem]) ?_
          simp only [xw, p0, p1, p2, p3]
          clear k1
          go_upto_region 23 with (fail)
          go_loopw [13, 14] (fun v i X => ∃ m : Nat, m ≤ j + 1 ∧ i = .int .i64 (m : Int) ∧ GB x6 v (512 * m) (allF (fun _ => 512) (bkF x (tmK ls fs j) j bs fs) m) X) (fun _ i _ => 100 - (intOf i).toNat)
          case atStart => exact ⟨0, Nat.zero_le _, rfl, GB.nil x6 (Ext.refl _) _⟩
          case round =>

            obtain ⟨m, hm, rfl, hB⟩ := hrel
            obtain ⟨bo, bc, rfl⟩ := hB.form
            have hX6 := hideit hB.2
            by_cases hlt : m < j + 1
            · have k1 : (m : Int) < ((j + 1 : Nat) : Int) := by omega
              have k2 : (m : Int) < (j : Int) + 1 := by omega
              have ek : IntKind.i64.wrap ((m : Int) + 1) = ((m + 1 : Nat) : Int) := by rw [IntKind.wrap_i64]; omega
              obtain ⟨g, gc, hq, _, _, hR⟩ := hQ7.out.at (Nat.succ_pos _)
              injection hq with hq1 _ hq3
              subst hq1 hq3
              obtain ⟨ub, uc, hub⟩ := (hQ7.out.bv m hlt).form
              have c1 := cell_ext' hX6.out (hR.1 m hlt)
              rw [hub] at c1
              have hbv := hideit ((hQ7.out.bv m hlt).ext hX6.out)
              rw [hub] at hbv
              replace hB := hideit hB
              replace hlt := hideit hlt
              clear hR hub
              go_upto_region 23 with (fail)
              refine wp_region_lit ?_
              refine xm [some (.int .i64 (m : Int)), some (.slice (some ⟨g, 0, none⟩) (j + 1) wc), some (.int .i64 ((j + 1) : Int)), some (.bool true)] (by kernel_rfl) (by simp [xr, go_sem, k2]) ?_
              simp only [xw, p0, p1, p2, p3]
              go_upto_region 25 with (fail)
              refine wp_region_lit ?_
              refine xm [some (.slice bo (512 * m) bc), some (.slice (some ⟨g, 0, none⟩) (j + 1) wc), some (.int .i64 (m : Int)), some (.pointer (some ⟨g, m, none⟩)), some (.slice ub 512 uc)] (by kernel_rfl) (by simp [xr, go_sem, k2, add0, c1]) ?_
              simp only [xw, p0, p1, p2, p3]
              refine wpList_gb rfl (.tmp 86) (.tmp 90) rfl rfl hB.out (.slice ub 512 uc) 512 (bkF x (tmK ls fs j) j bs fs m) rfl hbv.out (by have := hlt.out; omega) ?_
              intro v2 x2 hG2
              replace hG2 : GB x6 v2 (512 * (m + 1)) (allF (fun _ => 512) (bkF x (tmK ls fs j) j bs fs) (m + 1)) x2 := hG2.congr (by omega) fun q hq => by rw [allF_succ, sum512]
              simp only [Act.put, List.setIfInBounds_toArray, List.set_cons_zero, List.set_cons_succ]
              replace hG2 := hideit hG2
              clear hB hbv c1 hX6
              refine xm [some (v2)] (by kernel_rfl) (by simp [xr, go_sem]) ?_
              simp only [xw, p0, p1, p2, p3]
              go_upto_region 24 with (fail)
              refine wp_region_lit ?_
              refine xm [some (.int .i64 (m : Int)), some (.int .i64 ((m + 1 : Nat) : Int)), some (.int .i64 ((m + 1 : Nat) : Int))] (by kernel_rfl) (by simp [xr, go_sem, ek]) ?_
              simp only [xw, p0, p1, p2, p3]
              go_wp2
              exact ⟨⟨m + 1, by have := hlt.out; omega, rfl, hG2.out⟩, by have := hlt.out; simp [intOf]; omega⟩
            · obtain rfl : m = j + 1 := by omega
              have hT8 := hideit (hT.out.ext hX6.out)
              have hQ8 := hideit (hQ7.out.ext hX6.out)
              have hX8 := hideit (Ext.trans hX.out hX6.out)
              replace hB := hideit hB.bv
              have hXY := hideit (Ext.trans hE6.out hX6.out)
              have hYw := hideit (Below.size hX0.out)
              clear hT hQ7 hX hX6
              go_upto_region 23 with (fail)
              refine wp_region_lit ?_
              refine xm [some (.int .i64 ((j + 1 : Nat) : Int)), some (.slice wo (j + 1) wc), some (.int .i64 ((j + 1) : Int)), some (.bool false)] (by kernel_rfl) (by simp [xr, go_sem]) ?_
              simp only [xw, p0, p1, p2, p3]
              go_upto_region 26 with (fail)
              refine wp_region_lit ?_
              refine xm [some (.slice wo (j + 1) wc), some (.int .u64 (x.toNat : Int)), some (.slice bo (512 * (j + 1)) bc)] (by kernel_rfl) (by simp [xr, go_sem]) ?_
              simp only [xw, p0, p1, p2, p3]
              refine wpList_call rfl (by simp [go_sem]) ((rdn_any x (.slice bo (512 * (j + 1)) bc) (512 * (j + 1)) _ wr hB.out (by omega)).mono ?_)
              rintro e x3 ⟨u, rfl, hG3⟩
              refine ⟨_, rfl, ?_⟩
              simp only [Act.put, List.setIfInBounds_toArray, List.set_cons_zero, List.set_cons_succ]
              obtain ⟨d, dc, rfl, hd, hdc, _, hR⟩ := hG3.1.lies (by decide)
              have hX3 := hG3.2
              have hQ9 := hQ8.out.ext hX3
              have hX9 := Ext.trans hX8.out hX3
              obtain ⟨v4, x4, r4, hQ4, hB4⟩ := hQ9.app1 (Nat.le_trans (Below.size hXY.out) (Below.size hX3)) ⟨d, 0, none⟩ dc (sealF x (allF (fun _ => 512) (bkF x (tmK ls fs j) j bs fs) (j + 1)) (512 * (j + 1))) hdc (hR.lie 512 (Nat.le_refl _)) (fun q => by
                have := (hQ8.out.own.lt d q).2
                omega) (by omega) 24
              have hE4 := hideit (below_ext hX9 hYw.out hB4)
              have hQ5 : Hid (QLs w.heap.size v4 (j + 2) (up1 us6 (j + 1) (.slice (some ⟨d, 0, none⟩) 512 dc)) (trF x (tmK ls fs j) j bs fs) x4) := by
                refine ⟨hQ4.own.down hYw.out, fun i hi => ?_⟩
                obtain ⟨z, c, q1, q2, q3, q4⟩ := hQ4.byt i hi
                refine ⟨z, c, q1, q2, ⟨fun q hq => ?_, q3.2⟩, q4⟩
                rw [q3.1 q hq]
                unfold yv trF
                by_cases e : i = j + 1
                · subst e
                  rw [up1_same, if_pos rfl, sum512]
                · rw [up1_other _ e, if_neg e]
              clear hQ9 hQ4 hB4 hX9 hX3 hR hG3 hB
              refine wpList_to rfl (.slice (some ⟨x3.heap.size, 0, none⟩) 1 1) (x3.alloc (.cells #[.slice (some ⟨d, 0, none⟩) 512 dc] 34)) (by simp [go_sem]) ?_
              simp only [Act.put, List.setIfInBounds_toArray, List.set_cons_zero, List.set_cons_succ]
              refine wpList_to rfl v4 x4 (exec_app (.tmp 92) (.tmp 96) rfl rfl rfl r4) ?_
              simp only [Act.put, List.setIfInBounds_toArray, List.set_cons_zero, List.set_cons_succ]
              clear r4
              refine xm [some (v4), some (.int .i64 0)] (by kernel_rfl) (by simp [xr, go_sem]) ?_
              simp only [xw, p0, p1, p2, p3]
              go_wp2
              refine bodyPost_ret (res2 rfl _ _ _) rfl ?_
              first | exact ⟨v4, rfl, ⟨_, hQ5.out⟩, hE4.out⟩ | exact ⟨v4, _, rfl, hQ5.out, hE4.out⟩
end Go.Proofs.YtedgopionpdfeaaDoor
namespace Go.Proofs.YtedgopionpdfeaaDoor
open Go.RowKit Go.BigFrame
set_option linter.unusedVariables false
set_option maxRecDepth 20000 in
set_option maxHeartbeats 4000000 in
theorem parse_noneB (x : BitVec 64) (vb : Value) (m : Nat) (us : Nat → Value) (ls : Nat → Nat) (fs : Nat → Nat → BitVec 8) (w : World) (hP : PL vb m us ls fs w) (h0 : 0 < m → BV (us 0) (ls 0) (fs 0) w) (hls : ∀ i, i < m → ls i ≤ 140737488355328) (hm : m ≤ 5900000000000) (hno : ¬ hasP x m ls fs) : Calls Tryd.prog 12 #[.int .u64 (x.toNat : Int), vb] w fun e w' => e = .returned (.tuple #[.slice none 0 0, .int .i64 0, .int .i64 110]) ∧ Ext w w' := by
  obtain ⟨o, cap, rfl⟩ := hP.form
  by_cases hm0 : 0 < m
  · have m0 : ¬ (m : Int) = 0 := by omega
    have mz : ¬ m = 0 := by omega
    obtain ⟨a, rfl, eb⟩ := hP.at 0 hm0
    have ha0 : a.add 0 = a := by unfold Addr.add; simp
    rw [ha0] at eb
    clear ha0
    have kp := hideit (planIn_any (us 0) (ls 0) (fs 0) w (h0 hm0) (hls 0 hm0))
    clear hP h0 hls
    go_enter Tryd.func12, Tryd.ntmps12
    go_upto_region 3 with (fail)
    refine wp_region_lit ?_
    refine wpList_run rfl (.slice (some a) m cap) (by simp [go_sem]) ?_
    simp only [Act.put, List.setIfInBounds_toArray, List.set_cons_zero, List.set_cons_succ]
    refine wpList_run rfl (.pointer (some a)) (by simp [go_sem, mz]) ?_
    simp only [Act.put, List.setIfInBounds_toArray, List.set_cons_zero, List.set_cons_succ]
    refine wpList_run rfl (us 0) (by simp [go_sem, eb]) ?_
    simp only [Act.put, List.setIfInBounds_toArray, List.set_cons_zero, List.set_cons_succ]
    refine wpList_call rfl (by simp [go_sem]) ((kp.out).mono ?_)
    rintro e w1 ⟨pa, ok, rfl, hE1, hq⟩
    refine ⟨_, rfl, ?_⟩
    simp only [Act.put, List.setIfInBounds_toArray, List.set_cons_zero, List.set_cons_succ]
    clear kp eb
    rcases hq with ⟨rfl, hyes, v, rfl, hO⟩ | ⟨rfl, hnp, rfl⟩
    · obtain ⟨vo, vc, rfl⟩ := own_form3 hO
      have hpr : RowAt w1.heap.size 3 (plV 0#64 0#64 (.slice none 0 0)) (w1.alloc (.cells #[.int .u64 0, .int .u64 0, .slice none 0 0] 47)) := RowAt.newOf w1 3 _ 47 _ fun j hj => by rcases (by omega : j = 0 ∨ j = 1 ∨ j = 2) with rfl | rfl | rfl <;> rfl
      have hX2 : Ext w1 ((w1.alloc (.cells #[.int .u64 0, .int .u64 0, .slice none 0 0] 47)).setCells w1.heap.size 0 (row 3 (plV (nP (fs 0)) (tP (fs 0)) (.slice vo (cP (fs 0)) vc)))) := below_setCells w1.heap.size (Nat.le_refl _) _ 0 _ ((Below.refl _ _).alloc (Nat.le_refl _) _)
      have hR2 : RowAt w1.heap.size 3 (plV (nP (fs 0)) (tP (fs 0)) (.slice vo (cP (fs 0)) vc)) ((w1.alloc (.cells #[.int .u64 0, .int .u64 0, .slice none 0 0] 47)).setCells w1.heap.size 0 (row 3 (plV (nP (fs 0)) (tP (fs 0)) (.slice vo (cP (fs 0)) vc)))) := hpr.cells
      rw [plA_row]
      refine wpList_run rfl (.tuple #[.agg (row 3 (plV (nP (fs 0)) (tP (fs 0)) (.slice vo (cP (fs 0)) vc))).toArray, .bool true]) (by simp [go_sem]) ?_
      simp only [Act.put, List.setIfInBounds_toArray, List.set_cons_zero, List.set_cons_succ]
      refine wpList_run rfl (.agg (row 3 (plV (nP (fs 0)) (tP (fs 0)) (.slice vo (cP (fs 0)) vc))).toArray) (by simp [go_sem]) ?_
      simp only [Act.put, List.setIfInBounds_toArray, List.set_cons_zero, List.set_cons_succ]
      refine wpList_run rfl (.bool true) (by simp [go_sem]) ?_
      simp only [Act.put, List.setIfInBounds_toArray, List.set_cons_zero, List.set_cons_succ]
      refine wpList_to rfl (.pointer (some ⟨w1.heap.size, 0, none⟩)) (w1.alloc (.cells #[.int .u64 0, .int .u64 0, .slice none 0 0] 47)) (alloc47 rfl) ?_
      simp only [Act.put, List.setIfInBounds_toArray, List.set_cons_zero, List.set_cons_succ]
      refine wpList_store_mid rfl 47 (.tmp 7) (.tmp 21) rfl w1.heap.size 0 (row 3 (plV (nP (fs 0)) (tP (fs 0)) (.slice vo (cP (fs 0)) vc))).toArray rfl rfl (by rw [row_size]; exact hpr.there) (by rw [row_size]; exact info47) (row_one (plV_one rfl)) ?_
      rw [show (row 3 (plV (nP (fs 0)) (tP (fs 0)) (.slice vo (cP (fs 0)) vc))).toArray.toList = (row 3 (plV (nP (fs 0)) (tP (fs 0)) (.slice vo (cP (fs 0)) vc))) from rfl]
      generalize (w1.alloc (.cells #[.int .u64 0, .int .u64 0, .slice none 0 0] 47)).setCells w1.heap.size 0 (row 3 (plV (nP (fs 0)) (tP (fs 0)) (.slice vo (cP (fs 0)) vc))) = w2 at *
      generalize w1.heap.size = p at *
      simp only [Act.put]
      refine wpList_run rfl (.bool true) (by simp [go_sem]) ?_
      simp only [Act.put, List.setIfInBounds_toArray, List.set_cons_zero, List.set_cons_succ]
      have hE2 := hideit (Ext.trans hE1 hX2)
      have c0 : w2.cell? ⟨p, 0, none⟩ = some (.int .u64 ((nP (fs 0)).toNat : Int)) := hR2.1 0 (by decide)
      have c2 : w2.cell? ⟨p, 2, none⟩ = some (.slice vo (cP (fs 0)) vc) := hR2.1 2 (by decide)
      have hcn : cP (fs 0) ≤ 65535 := by
        have := leN_nat (shF (fs 0) 12) 2 (by decide)
        unfold cP
        omega
      have hw2 : IntKind.i64.wrap ((cP (fs 0) : Int) + 2) = ((cP (fs 0) + 2 : Nat) : Int) := by rw [IntKind.wrap_i64]; omega
      have hc : nP (fs 0) ≠ x ∨ ¬ cP (fs 0) + 2 ≤ m := by
        by_cases h1 : nP (fs 0) = x
        · exact .inr fun h2 => hno ⟨hm0, hyes, h1, h2⟩
        · exact .inl h1
      clear hO hX2 hpr hE1 hR2 hyes hno
      generalize nP (fs 0) = nx at *
      generalize tP (fs 0) = tx at *
      generalize cP (fs 0) = n at *
      go_upto_region 4 with (fail)
      refine wp_region_lit ?_
      refine wpList_run rfl (.pointer (some ⟨p, 2, none⟩)) (by simp [go_sem]) ?_
      simp only [Act.put, List.setIfInBounds_toArray, List.set_cons_zero, List.set_cons_succ]
      refine wpList_run rfl (.slice vo n vc) (by simp [go_sem, c2]) ?_
      simp only [Act.put, List.setIfInBounds_toArray, List.set_cons_zero, List.set_cons_succ]
      refine wpList_run rfl (.int .i64 (n : Int)) (by simp [go_sem]) ?_
      simp only [Act.put, List.setIfInBounds_toArray, List.set_cons_zero, List.set_cons_succ]
      refine wpList_run rfl (.int .i64 ((n + 2 : Nat) : Int)) (by simp [go_sem, hw2]) ?_
      simp only [Act.put, List.setIfInBounds_toArray, List.set_cons_zero, List.set_cons_succ]
      refine wpList_run rfl (.int .i64 ((n + 2 : Nat) : Int)) (by simp [go_sem]) ?_
      simp only [Act.put, List.setIfInBounds_toArray, List.set_cons_zero, List.set_cons_succ]
      clear c2 hw2
      generalize hn2 : n + 2 = n2 at *
      by_cases h1 : nx = x
      · subst h1
        have g1 : (m : Int) < (n2 : Int) := by
          rcases hc with hc | hc
          · exact absurd rfl hc
          · omega
        clear hc
        go_upto_region 5 with (fail)
        refine wp_region_lit ?_
        refine wpList_run rfl (.bool true) (by simp [go_sem]) ?_
        simp only [Act.put, List.setIfInBounds_toArray, List.set_cons_zero, List.set_cons_succ]
        refine wpList_run rfl (.bool false) (by simp [go_sem]) ?_
        simp only [Act.put, List.setIfInBounds_toArray, List.set_cons_zero, List.set_cons_succ]
        refine wpList_run rfl (.bool false) (by simp [go_sem]) ?_
        simp only [Act.put, List.setIfInBounds_toArray, List.set_cons_zero, List.set_cons_succ]
        refine wpList_runW rfl (.pointer (some ⟨p, 0, none⟩)) (by simp [go_sem]) ?_
        simp only [Act.put, List.setIfInBounds_toArray, List.set_cons_zero, List.set_cons_succ]
        refine wpList_runW rfl (.int .u64 (nx.toNat : Int)) (by simp [go_sem, c0]) ?_
        simp only [Act.put, List.setIfInBounds_toArray, List.set_cons_zero, List.set_cons_succ]
        refine wpList_runW rfl (.int .u64 (nx.toNat : Int)) (by simp [go_sem]) ?_
        simp only [Act.put, List.setIfInBounds_toArray, List.set_cons_zero, List.set_cons_succ]
        refine wpList_runW rfl (.bool false) (by simp [go_sem]) ?_
        simp only [Act.put, List.setIfInBounds_toArray, List.set_cons_zero, List.set_cons_succ]
        refine wpList_run rfl (.bool false) (by simp [go_sem]) ?_
        simp only [Act.put, List.setIfInBounds_toArray, List.set_cons_zero, List.set_cons_succ]
        refine wpList_run rfl (.bool false) (by simp [go_sem]) ?_
        simp only [Act.put, List.setIfInBounds_toArray, List.set_cons_zero, List.set_cons_succ]
        refine wpList_runW rfl (.int .i64 (n2 : Int)) (by simp [go_sem]) ?_
        simp only [Act.put, List.setIfInBounds_toArray, List.set_cons_zero, List.set_cons_succ]
        refine wpList_runW rfl (.slice (some a) m cap) (by simp [go_sem]) ?_
        simp only [Act.put, List.setIfInBounds_toArray, List.set_cons_zero, List.set_cons_succ]
        refine wpList_runW rfl (.int .i64 (m : Int)) (by simp [go_sem]) ?_
        simp only [Act.put, List.setIfInBounds_toArray, List.set_cons_zero, List.set_cons_succ]
        refine wpList_runW rfl (.bool true) (by simp [go_sem, g1]) ?_
        simp only [Act.put, List.setIfInBounds_toArray, List.set_cons_zero, List.set_cons_succ]
        refine wpList_run rfl (.bool true) (by simp [go_sem]) ?_
        simp only [Act.put, List.setIfInBounds_toArray, List.set_cons_zero, List.set_cons_succ]
        clear c0 g1
        go_wp2
        refine bodyPost_ret (results_tmp3 rfl _ _ _) rfl ?_
        exact ⟨rfl, hE2.out⟩
      · have g1 : ¬ (nx.toNat : Int) = (x.toNat : Int) := fun h => h1 (BitVec.eq_of_toNat_eq (by omega))
        clear hc
        go_upto_region 5 with (fail)
        refine wp_region_lit ?_
        refine wpList_run rfl (.bool true) (by simp [go_sem]) ?_
        simp only [Act.put, List.setIfInBounds_toArray, List.set_cons_zero, List.set_cons_succ]
        refine wpList_run rfl (.bool false) (by simp [go_sem]) ?_
        simp only [Act.put, List.setIfInBounds_toArray, List.set_cons_zero, List.set_cons_succ]
        refine wpList_run rfl (.bool false) (by simp [go_sem]) ?_
        simp only [Act.put, List.setIfInBounds_toArray, List.set_cons_zero, List.set_cons_succ]
        refine wpList_runW rfl (.pointer (some ⟨p, 0, none⟩)) (by simp [go_sem]) ?_
        simp only [Act.put, List.setIfInBounds_toArray, List.set_cons_zero, List.set_cons_succ]
        refine wpList_runW rfl (.int .u64 (nx.toNat : Int)) (by simp [go_sem, c0]) ?_
        simp only [Act.put, List.setIfInBounds_toArray, List.set_cons_zero, List.set_cons_succ]
        refine wpList_runW rfl (.int .u64 (x.toNat : Int)) (by simp [go_sem]) ?_
        simp only [Act.put, List.setIfInBounds_toArray, List.set_cons_zero, List.set_cons_succ]
        refine wpList_runW rfl (.bool true) (by simp [go_sem, g1]) ?_
        simp only [Act.put, List.setIfInBounds_toArray, List.set_cons_zero, List.set_cons_succ]
        refine wpList_run rfl (.bool true) (by simp [go_sem]) ?_
        simp only [Act.put, List.setIfInBounds_toArray, List.set_cons_zero, List.set_cons_succ]
        refine wpList_run rfl (.bool true) (by simp [go_sem]) ?_
        simp only [Act.put, List.setIfInBounds_toArray, List.set_cons_zero, List.set_cons_succ]
        refine wpList_skip rfl ?_
        simp only [Act.put, List.setIfInBounds_toArray, List.set_cons_zero, List.set_cons_succ]
        refine wpList_skip rfl ?_
        simp only [Act.put, List.setIfInBounds_toArray, List.set_cons_zero, List.set_cons_succ]
        refine wpList_skip rfl ?_
        simp only [Act.put, List.setIfInBounds_toArray, List.set_cons_zero, List.set_cons_succ]
        refine wpList_skip rfl ?_
        simp only [Act.put, List.setIfInBounds_toArray, List.set_cons_zero, List.set_cons_succ]
        refine wpList_run rfl (.bool true) (by simp [go_sem]) ?_
        simp only [Act.put, List.setIfInBounds_toArray, List.set_cons_zero, List.set_cons_succ]
        clear c0 g1
        go_wp2
        refine bodyPost_ret (results_tmp3 rfl _ _ _) rfl ?_
        exact ⟨rfl, hE2.out⟩
    · have hpr : RowAt w1.heap.size 3 (plV 0#64 0#64 (.slice none 0 0)) (w1.alloc (.cells #[.int .u64 0, .int .u64 0, .slice none 0 0] 47)) := RowAt.newOf w1 3 _ 47 _ fun j hj => by rcases (by omega : j = 0 ∨ j = 1 ∨ j = 2) with rfl | rfl | rfl <;> rfl
      have hX2 : Ext w1 ((w1.alloc (.cells #[.int .u64 0, .int .u64 0, .slice none 0 0] 47)).setCells w1.heap.size 0 (row 3 (plV 0#64 0#64 (.slice none 0 0)))) := below_setCells w1.heap.size (Nat.le_refl _) _ 0 _ ((Below.refl _ _).alloc (Nat.le_refl _) _)
      have hR2 : RowAt w1.heap.size 3 (plV 0#64 0#64 (.slice none 0 0)) ((w1.alloc (.cells #[.int .u64 0, .int .u64 0, .slice none 0 0] 47)).setCells w1.heap.size 0 (row 3 (plV 0#64 0#64 (.slice none 0 0)))) := hpr.cells
      rw [plA_row]
      refine wpList_run rfl (.tuple #[.agg (row 3 (plV 0#64 0#64 (.slice none 0 0))).toArray, .bool false]) (by simp [go_sem]) ?_
      simp only [Act.put, List.setIfInBounds_toArray, List.set_cons_zero, List.set_cons_succ]
      refine wpList_run rfl (.agg (row 3 (plV 0#64 0#64 (.slice none 0 0))).toArray) (by simp [go_sem]) ?_
      simp only [Act.put, List.setIfInBounds_toArray, List.set_cons_zero, List.set_cons_succ]
      refine wpList_run rfl (.bool false) (by simp [go_sem]) ?_
      simp only [Act.put, List.setIfInBounds_toArray, List.set_cons_zero, List.set_cons_succ]
      refine wpList_to rfl (.pointer (some ⟨w1.heap.size, 0, none⟩)) (w1.alloc (.cells #[.int .u64 0, .int .u64 0, .slice none 0 0] 47)) (alloc47 rfl) ?_
      simp only [Act.put, List.setIfInBounds_toArray, List.set_cons_zero, List.set_cons_succ]
      refine wpList_store_mid rfl 47 (.tmp 7) (.tmp 21) rfl w1.heap.size 0 (row 3 (plV 0#64 0#64 (.slice none 0 0))).toArray rfl rfl (by rw [row_size]; exact hpr.there) (by rw [row_size]; exact info47) (row_one (plV_one rfl)) ?_
      rw [show (row 3 (plV 0#64 0#64 (.slice none 0 0))).toArray.toList = (row 3 (plV 0#64 0#64 (.slice none 0 0))) from rfl]
      generalize (w1.alloc (.cells #[.int .u64 0, .int .u64 0, .slice none 0 0] 47)).setCells w1.heap.size 0 (row 3 (plV 0#64 0#64 (.slice none 0 0))) = w2 at *
      generalize w1.heap.size = p at *
      simp only [Act.put]
      refine wpList_run rfl (.bool false) (by simp [go_sem]) ?_
      simp only [Act.put, List.setIfInBounds_toArray, List.set_cons_zero, List.set_cons_succ]
      have hE2 := hideit (Ext.trans hE1 hX2)
      have c2 : w2.cell? ⟨p, 2, none⟩ = some (.slice none 0 0) := hR2.1 2 (by decide)
      clear hX2 hpr hE1 hR2 hnp hno
      have hw0 : IntKind.i64.wrap 2 = 2 := by decide
      go_upto_region 4 with (fail)
      refine wp_region_lit ?_
      refine wpList_run rfl (.pointer (some ⟨p, 2, none⟩)) (by simp [go_sem]) ?_
      simp only [Act.put, List.setIfInBounds_toArray, List.set_cons_zero, List.set_cons_succ]
      refine wpList_run rfl (.slice none 0 0) (by simp [go_sem, c2]) ?_
      simp only [Act.put, List.setIfInBounds_toArray, List.set_cons_zero, List.set_cons_succ]
      refine wpList_run rfl (.int .i64 0) (by simp [go_sem]) ?_
      simp only [Act.put, List.setIfInBounds_toArray, List.set_cons_zero, List.set_cons_succ]
      refine wpList_run rfl (.int .i64 2) (by simp [go_sem, hw0]) ?_
      simp only [Act.put, List.setIfInBounds_toArray, List.set_cons_zero, List.set_cons_succ]
      refine wpList_run rfl (.int .i64 2) (by simp [go_sem]) ?_
      simp only [Act.put, List.setIfInBounds_toArray, List.set_cons_zero, List.set_cons_succ]
      clear c2 hw0
      go_upto_region 5 with (fail)
      refine wp_region_lit ?_
      refine wpList_run rfl (.bool false) (by simp [go_sem]) ?_
      simp only [Act.put, List.setIfInBounds_toArray, List.set_cons_zero, List.set_cons_succ]
      refine wpList_run rfl (.bool true) (by simp [go_sem]) ?_
      simp only [Act.put, List.setIfInBounds_toArray, List.set_cons_zero, List.set_cons_succ]
      refine wpList_run rfl (.bool true) (by simp [go_sem]) ?_
      simp only [Act.put, List.setIfInBounds_toArray, List.set_cons_zero, List.set_cons_succ]
      refine wpList_skip rfl ?_
      simp only [Act.put, List.setIfInBounds_toArray, List.set_cons_zero, List.set_cons_succ]
      refine wpList_skip rfl ?_
      simp only [Act.put, List.setIfInBounds_toArray, List.set_cons_zero, List.set_cons_succ]
      refine wpList_skip rfl ?_
      simp only [Act.put, List.setIfInBounds_toArray, List.set_cons_zero, List.set_cons_succ]
      refine wpList_skip rfl ?_
      simp only [Act.put, List.setIfInBounds_toArray, List.set_cons_zero, List.set_cons_succ]
      refine wpList_run rfl (.bool true) (by simp [go_sem]) ?_
      simp only [Act.put, List.setIfInBounds_toArray, List.set_cons_zero, List.set_cons_succ]
      refine wpList_run rfl (.bool true) (by simp [go_sem]) ?_
      simp only [Act.put, List.setIfInBounds_toArray, List.set_cons_zero, List.set_cons_succ]
      refine wpList_skip rfl ?_
      simp only [Act.put, List.setIfInBounds_toArray, List.set_cons_zero, List.set_cons_succ]
      refine wpList_skip rfl ?_
      simp only [Act.put, List.setIfInBounds_toArray, List.set_cons_zero, List.set_cons_succ]
      refine wpList_skip rfl ?_
      simp only [Act.put, List.setIfInBounds_toArray, List.set_cons_zero, List.set_cons_succ]
      refine wpList_skip rfl ?_
      simp only [Act.put, List.setIfInBounds_toArray, List.set_cons_zero, List.set_cons_succ]
      refine wpList_run rfl (.bool true) (by simp [go_sem]) ?_
      simp only [Act.put, List.setIfInBounds_toArray, List.set_cons_zero, List.set_cons_succ]
      go_wp2
      refine bodyPost_ret (results_tmp3 rfl _ _ _) rfl ?_
      exact ⟨rfl, hE2.out⟩
  · obtain rfl : m = 0 := by omega
    clear hP h0 hls hno
    have hE2 := hideit (Ext.refl w)
    go_enter Tryd.func12, Tryd.ntmps12
    go_wp2
    refine bodyPost_ret (results_tmp3 rfl _ _ _) rfl ?_
    exact ⟨rfl, hE2.out⟩
set_option maxRecDepth 20000 in
set_option maxHeartbeats 4000000 in
theorem parse_someB (x : BitVec 64) (vb : Value) (m : Nat) (us : Nat → Value) (ls : Nat → Nat) (fs : Nat → Nat → BitVec 8) (w : World) (hT : TabC w) (hP : PL vb m us ls fs w) (h0 : 0 < m → BV (us 0) (ls 0) (fs 0) w) (hls : ∀ i, i < m → ls i ≤ 140737488355328) (hm : m ≤ 5900000000000) (hh : hasP x m ls fs) : Calls Tryd.prog 12 #[.int .u64 (x.toNat : Int), vb] w (PaQ x ls fs w) := by
  obtain ⟨o, cap, rfl⟩ := hP.form
  obtain ⟨hm0, hpl, hnx, hcm⟩ := hh
  have m0 : ¬ (m : Int) = 0 := by omega
  have mz : ¬ m = 0 := by omega
  have hn64 : 1 ≤ cP (fs 0) ∧ cP (fs 0) ≤ 64 := ⟨hpl.2.2.2.2.2.1, hpl.2.2.2.2.2.2.1⟩
  obtain ⟨a, rfl, eb⟩ := hP.at 0 hm0
  have ha0 : a.add 0 = a := by unfold Addr.add; simp
  rw [ha0] at eb
  clear ha0
  obtain ⟨hmc, hpre⟩ := hP.pre hcm
  have kp := hideit (planIn_any (us 0) (ls 0) (fs 0) w (h0 hm0) (hls 0 hm0))
  replace hP := hideit hP
  replace hpre := hideit hpre
  replace hT := hideit hT
  clear h0
  go_enter Tryd.func12, Tryd.ntmps12
  go_upto_region 3 with (fail)
  refine wp_region_lit ?_
  refine wpList_run rfl (.slice (some a) m cap) (by simp [go_sem]) ?_
  simp only [Act.put, List.setIfInBounds_toArray, List.set_cons_zero, List.set_cons_succ]
  refine wpList_run rfl (.pointer (some a)) (by simp [go_sem, mz]) ?_
  simp only [Act.put, List.setIfInBounds_toArray, List.set_cons_zero, List.set_cons_succ]
  refine wpList_run rfl (us 0) (by simp [go_sem, eb]) ?_
  simp only [Act.put, List.setIfInBounds_toArray, List.set_cons_zero, List.set_cons_succ]
  refine wpList_call rfl (by simp [go_sem]) ((kp.out).mono ?_)
  rintro e w1 ⟨pa, ok, rfl, hE1, hq⟩
  refine ⟨_, rfl, ?_⟩
  simp only [Act.put, List.setIfInBounds_toArray, List.set_cons_zero, List.set_cons_succ]
  clear kp eb
  rcases hq with ⟨rfl, hyes, v, rfl, hO⟩ | ⟨rfl, hnp, rfl⟩
  · obtain ⟨vo, vc, rfl⟩ := own_form3 hO
    have hpr : RowAt w1.heap.size 3 (plV 0#64 0#64 (.slice none 0 0)) (w1.alloc (.cells #[.int .u64 0, .int .u64 0, .slice none 0 0] 47)) := RowAt.newOf w1 3 _ 47 _ fun j hj => by rcases (by omega : j = 0 ∨ j = 1 ∨ j = 2) with rfl | rfl | rfl <;> rfl
    have hX2 : Ext w1 ((w1.alloc (.cells #[.int .u64 0, .int .u64 0, .slice none 0 0] 47)).setCells w1.heap.size 0 (row 3 (plV (nP (fs 0)) (tP (fs 0)) (.slice vo (cP (fs 0)) vc)))) := below_setCells w1.heap.size (Nat.le_refl _) _ 0 _ ((Below.refl _ _).alloc (Nat.le_refl _) _)
    have hR2 : RowAt w1.heap.size 3 (plV (nP (fs 0)) (tP (fs 0)) (.slice vo (cP (fs 0)) vc)) ((w1.alloc (.cells #[.int .u64 0, .int .u64 0, .slice none 0 0] 47)).setCells w1.heap.size 0 (row 3 (plV (nP (fs 0)) (tP (fs 0)) (.slice vo (cP (fs 0)) vc)))) := hpr.cells
    rw [plA_row]
    refine wpList_run rfl (.tuple #[.agg (row 3 (plV (nP (fs 0)) (tP (fs 0)) (.slice vo (cP (fs 0)) vc))).toArray, .bool true]) (by simp [go_sem]) ?_
    simp only [Act.put, List.setIfInBounds_toArray, List.set_cons_zero, List.set_cons_succ]
    refine wpList_run rfl (.agg (row 3 (plV (nP (fs 0)) (tP (fs 0)) (.slice vo (cP (fs 0)) vc))).toArray) (by simp [go_sem]) ?_
    simp only [Act.put, List.setIfInBounds_toArray, List.set_cons_zero, List.set_cons_succ]
    refine wpList_run rfl (.bool true) (by simp [go_sem]) ?_
    simp only [Act.put, List.setIfInBounds_toArray, List.set_cons_zero, List.set_cons_succ]
    refine wpList_to rfl (.pointer (some ⟨w1.heap.size, 0, none⟩)) (w1.alloc (.cells #[.int .u64 0, .int .u64 0, .slice none 0 0] 47)) (alloc47 rfl) ?_
    simp only [Act.put, List.setIfInBounds_toArray, List.set_cons_zero, List.set_cons_succ]
    refine wpList_store_mid rfl 47 (.tmp 7) (.tmp 21) rfl w1.heap.size 0 (row 3 (plV (nP (fs 0)) (tP (fs 0)) (.slice vo (cP (fs 0)) vc))).toArray rfl rfl (by rw [row_size]; exact hpr.there) (by rw [row_size]; exact info47) (row_one (plV_one rfl)) ?_
    rw [show (row 3 (plV (nP (fs 0)) (tP (fs 0)) (.slice vo (cP (fs 0)) vc))).toArray.toList = (row 3 (plV (nP (fs 0)) (tP (fs 0)) (.slice vo (cP (fs 0)) vc))) from rfl]
    generalize (w1.alloc (.cells #[.int .u64 0, .int .u64 0, .slice none 0 0] 47)).setCells w1.heap.size 0 (row 3 (plV (nP (fs 0)) (tP (fs 0)) (.slice vo (cP (fs 0)) vc))) = w2 at *
    generalize w1.heap.size = p at *
    simp only [Act.put]
    refine wpList_run rfl (.bool true) (by simp [go_sem]) ?_
    simp only [Act.put, List.setIfInBounds_toArray, List.set_cons_zero, List.set_cons_succ]
    have hE2 := hideit (Ext.trans hE1 hX2)
    have c0 : w2.cell? ⟨p, 0, none⟩ = some (.int .u64 ((nP (fs 0)).toNat : Int)) := hR2.1 0 (by decide)
    have c2 : w2.cell? ⟨p, 2, none⟩ = some (.slice vo (cP (fs 0)) vc) := hR2.1 2 (by decide)
    rw [hnx] at c0
    have hw2 : IntKind.i64.wrap ((cP (fs 0) : Int) + 2) = ((cP (fs 0) + 2 : Nat) : Int) := by rw [IntKind.wrap_i64]; omega
    have hO2 := hideit (hO.ext hX2)
    replace hR2 := hideit hR2
    clear hO hX2 hpr hE1 hyes hpl
    go_upto_region 4 with (fail)
    refine wp_region_lit ?_
    refine wpList_run rfl (.pointer (some ⟨p, 2, none⟩)) (by simp [go_sem]) ?_
    simp only [Act.put, List.setIfInBounds_toArray, List.set_cons_zero, List.set_cons_succ]
    refine wpList_run rfl (.slice vo (cP (fs 0)) vc) (by simp [go_sem, c2]) ?_
    simp only [Act.put, List.setIfInBounds_toArray, List.set_cons_zero, List.set_cons_succ]
    refine wpList_run rfl (.int .i64 (cP (fs 0) : Int)) (by simp [go_sem]) ?_
    simp only [Act.put, List.setIfInBounds_toArray, List.set_cons_zero, List.set_cons_succ]
    refine wpList_run rfl (.int .i64 ((cP (fs 0) + 2 : Nat) : Int)) (by simp [go_sem, hw2]) ?_
    simp only [Act.put, List.setIfInBounds_toArray, List.set_cons_zero, List.set_cons_succ]
    refine wpList_run rfl (.int .i64 ((cP (fs 0) + 2 : Nat) : Int)) (by simp [go_sem]) ?_
    simp only [Act.put, List.setIfInBounds_toArray, List.set_cons_zero, List.set_cons_succ]
    clear c2 hw2
    obtain ⟨n2, hn2⟩ : ∃ n2, n2 = cP (fs 0) + 2 := ⟨_, rfl⟩
    rw [← hn2] at hcm hpre ⊢
    have g1 : ¬ (m : Int) < (n2 : Int) := by omega
    go_upto_region 5 with (fail)
    refine wp_region_lit ?_
    refine wpList_run rfl (.bool true) (by simp [go_sem]) ?_
    simp only [Act.put, List.setIfInBounds_toArray, List.set_cons_zero, List.set_cons_succ]
    refine wpList_run rfl (.bool false) (by simp [go_sem]) ?_
    simp only [Act.put, List.setIfInBounds_toArray, List.set_cons_zero, List.set_cons_succ]
    refine wpList_run rfl (.bool false) (by simp [go_sem]) ?_
    simp only [Act.put, List.setIfInBounds_toArray, List.set_cons_zero, List.set_cons_succ]
    refine wpList_runW rfl (.pointer (some ⟨p, 0, none⟩)) (by simp [go_sem]) ?_
    simp only [Act.put, List.setIfInBounds_toArray, List.set_cons_zero, List.set_cons_succ]
    refine wpList_runW rfl (.int .u64 (x.toNat : Int)) (by simp [go_sem, c0]) ?_
    simp only [Act.put, List.setIfInBounds_toArray, List.set_cons_zero, List.set_cons_succ]
    refine wpList_runW rfl (.int .u64 (x.toNat : Int)) (by simp [go_sem]) ?_
    simp only [Act.put, List.setIfInBounds_toArray, List.set_cons_zero, List.set_cons_succ]
    refine wpList_runW rfl (.bool false) (by simp [go_sem]) ?_
    simp only [Act.put, List.setIfInBounds_toArray, List.set_cons_zero, List.set_cons_succ]
    refine wpList_run rfl (.bool false) (by simp [go_sem]) ?_
    simp only [Act.put, List.setIfInBounds_toArray, List.set_cons_zero, List.set_cons_succ]
    refine wpList_run rfl (.bool false) (by simp [go_sem]) ?_
    simp only [Act.put, List.setIfInBounds_toArray, List.set_cons_zero, List.set_cons_succ]
    refine wpList_runW rfl (.int .i64 (n2 : Int)) (by simp [go_sem]) ?_
    simp only [Act.put, List.setIfInBounds_toArray, List.set_cons_zero, List.set_cons_succ]
    refine wpList_runW rfl (.slice (some a) m cap) (by simp [go_sem]) ?_
    simp only [Act.put, List.setIfInBounds_toArray, List.set_cons_zero, List.set_cons_succ]
    refine wpList_runW rfl (.int .i64 (m : Int)) (by simp [go_sem]) ?_
    simp only [Act.put, List.setIfInBounds_toArray, List.set_cons_zero, List.set_cons_succ]
    refine wpList_runW rfl (.bool false) (by simp [go_sem, g1]) ?_
    simp only [Act.put, List.setIfInBounds_toArray, List.set_cons_zero, List.set_cons_succ]
    refine wpList_run rfl (.bool false) (by simp [go_sem]) ?_
    simp only [Act.put, List.setIfInBounds_toArray, List.set_cons_zero, List.set_cons_succ]
    clear c0 g1
    have sub1 : IntKind.i64.wrap ((n2 : Int) - 1) = ((cP (fs 0) + 1 : Nat) : Int) := by rw [IntKind.wrap_i64]; omega
    have hIL := (hO2.out.ext (Ext.refl w2).draw).il (fun j _ => bP_ok (fs 0) j)
    have hPD := hideit (hP.out.ext hE2.out)
    have kr := hideit (redos_any (nP (fs 0)) (tP (fs 0)) (.slice vo (cP (fs 0)) vc) (.slice (some (a.add 1)) (cP (fs 0)) (cap - 1)) (cP (fs 0)) (bP (fs 0)) _ _ _ w2.drew hIL ((PL.sub1 hPD.out (by omega) (by omega)).ext (Ext.refl w2).draw) (fun i hi => hls (i + 1) (by omega)) hn64.2)
    rw [plA_row] at kr
    have s1 : (0 : Int) ≤ (cP (fs 0) : Int) + 1 ∧ (cP (fs 0) : Int) + 1 ≤ (cap : Int) := by omega
    have s2 : (1 : Int) ≤ (cP (fs 0) : Int) + 1 := by omega
    have s3 : ¬ cap = 1 := by omega
    clear hIL
    go_upto_region 7 with (fail)
    refine wp_region_lad (fun X => Ext w2.drew X) [(false, 0), (false, 1), (false, 2), (false, 3), (false, 4), (true, 5), (false, 6)] (by kernel_rfl) (by kernel_rfl) (by decide +kernel) (by decide +kernel) (by decide +kernel) (by decide +kernel) (Ext.refl _) ?_
    refine wpX_f _ (.agg (row 3 (plV (nP (fs 0)) (tP (fs 0)) (.slice vo (cP (fs 0)) vc))).toArray) rfl rfl (fun X hX => exec_loadR 47 (.tmp 7) rfl p 0 3 _ rfl (hR2.out.drew.carry hX).range Tryd.underlying47 rfl info47) ?_
    simp only [List.getElem_toArray, List.getElem_cons_zero, Act.put, List.setIfInBounds_toArray, List.set_cons_zero, List.set_cons_succ]
    refine wpX_f _ (.slice (some a) m cap) rfl rfl (fun X _ => by simp [go_sem]) ?_
    simp only [List.getElem_toArray, List.getElem_cons_zero, List.getElem_cons_succ, Act.put, List.setIfInBounds_toArray, List.set_cons_zero, List.set_cons_succ]
    refine wpX_f _ (.int .i64 (n2 : Int)) rfl rfl (fun X _ => by simp [go_sem]) ?_
    simp only [List.getElem_toArray, List.getElem_cons_zero, List.getElem_cons_succ, Act.put, List.setIfInBounds_toArray, List.set_cons_zero, List.set_cons_succ]
    refine wpX_f _ (.int .i64 ((cP (fs 0) + 1 : Nat) : Int)) rfl rfl (fun X _ => by simp [go_sem, sub1]) ?_
    simp only [List.getElem_toArray, List.getElem_cons_zero, List.getElem_cons_succ, Act.put, List.setIfInBounds_toArray, List.set_cons_zero, List.set_cons_succ]
    refine wpX_f _ (.slice (some (a.add 1)) (cP (fs 0)) (cap - 1)) rfl rfl (fun X _ => by simp [go_sem, s1, s2, s3, Addr.add]) ?_
    simp only [List.getElem_toArray, List.getElem_cons_zero, List.getElem_cons_succ, Act.put, List.setIfInBounds_toArray, List.set_cons_zero, List.set_cons_succ]
    refine wpX_call _ rfl rfl (by simp [go_sem]) ((kr.out).mono ?_)
    rintro e w7 ⟨v7, us7, rfl, hD7, hX7⟩
    refine ⟨_, rfl, fun X => Ext w7 X, fun X hX => Ext.trans hX7 hX, Ext.refl _, ?_⟩
    obtain ⟨v7o, v7c, rfl⟩ := hD7.form
    simp only [List.getElem_toArray, List.getElem_cons_zero, List.getElem_cons_succ, Act.put, List.setIfInBounds_toArray, List.set_cons_zero, List.set_cons_succ]
    refine wpX_f _ (.slice v7o (cP (fs 0)) v7c) rfl rfl (fun X _ => by simp [go_sem]) ?_
    simp only [List.getElem_toArray, List.getElem_cons_zero, List.getElem_cons_succ, Act.put, List.setIfInBounds_toArray, List.set_cons_zero, List.set_cons_succ]
    refine wpX_nil ?_
    have hE7 := hideit (Ext.trans hE2.out (Ext.trans (Ext.refl w2).draw hX7))
    have hRL := hideit (hD7.rls (by omega) (fun i hi => hls (i + 1) (by omega)))
    replace hD7 : Hid (RDs w.heap.size (.slice v7o (cP (fs 0)) v7c) (cP (fs 0)) (bP (fs 0)) us7 (fun i => ls (i + 1)) (unL ls fs) w7) := ⟨hD7.own.down2 (Below.size hE2.out.draw), fun i hi => ⟨(hD7.byt i hi).1.down (Below.size hE2.out.draw), (hD7.byt i hi).2⟩⟩
    clear kr sub1 s1 s2 s3 hO2 hR2 hPD hX7 hE2
    by_cases hok : okT x (cP (fs 0)) (bP (fs 0)) (fun i => ls (i + 1)) (unL ls fs)
    · have kb := hideit (blocks_ok x (.slice v7o (cP (fs 0)) v7c) (cP (fs 0)) (bP (fs 0)) us7 (fun i => ls (i + 1)) (unL ls fs) w7 hRL.out (fun i _ => bP_ok (fs 0) i) (by omega) (hT.out.ext hE7.out) hok)
      replace hok := hideit hok
      go_upto_region 8 with (fail)
      refine wp_region_lit ?_
      refine wpList_run rfl (.int .u64 (x.toNat : Int)) (by simp [go_sem]) ?_
      simp only [Act.put, List.setIfInBounds_toArray, List.set_cons_zero, List.set_cons_succ]
      refine wpList_run rfl (.slice v7o (cP (fs 0)) v7c) (by simp [go_sem]) ?_
      simp only [Act.put, List.setIfInBounds_toArray, List.set_cons_zero, List.set_cons_succ]
      refine wpList_call rfl (by simp [go_sem]) ((kb.out).mono ?_)
      rintro e w8 ⟨v8, us8, rfl, hB8, hX8⟩
      refine ⟨_, rfl, ?_⟩
      simp only [Act.put, List.setIfInBounds_toArray, List.set_cons_zero, List.set_cons_succ]
      obtain ⟨v8o, v8c, rfl⟩ := hB8.form
      have hE8 := hideit (Ext.trans hE7.out hX8)
      replace hD7 := hideit (hD7.out.ext hX8)
      have ke := hideit (eqf_any (.slice v8o (cP (fs 0) + 2) v8c) (.slice (some a) n2 cap) (cP (fs 0) + 2) n2 us8 us (fun _ => 512) ls _ fs w8 hB8.pl (hpre.out.ext hE8.out) (by omega) (by omega))
      clear kb hRL hB8 hX8 hE7 hT hP hpre
      refine wpList_run rfl (.tuple #[.slice v8o (cP (fs 0) + 2) v8c, .int .i64 0]) (by simp [go_sem]) ?_
      simp only [Act.put, List.setIfInBounds_toArray, List.set_cons_zero, List.set_cons_succ]
      refine wpList_run rfl (.slice v8o (cP (fs 0) + 2) v8c) (by simp [go_sem]) ?_
      simp only [Act.put, List.setIfInBounds_toArray, List.set_cons_zero, List.set_cons_succ]
      refine wpList_run rfl (.int .i64 0) (by simp [go_sem]) ?_
      simp only [Act.put, List.setIfInBounds_toArray, List.set_cons_zero, List.set_cons_succ]
      refine wpList_run rfl (.slice v8o (cP (fs 0) + 2) v8c) (by simp [go_sem]) ?_
      simp only [Act.put, List.setIfInBounds_toArray, List.set_cons_zero, List.set_cons_succ]
      refine wpList_run rfl (.int .i64 0) (by simp [go_sem]) ?_
      simp only [Act.put, List.setIfInBounds_toArray, List.set_cons_zero, List.set_cons_succ]
      have s2 : (n2 : Int) ≤ (cap : Int) := by omega
      have s3 : n2 ≤ cap := by omega
      go_upto_region 9 with (fail)
      refine wp_region_lit ?_
      refine wpList_run rfl (.int .i64 0) (by simp [go_sem]) ?_
      simp only [Act.put, List.setIfInBounds_toArray, List.set_cons_zero, List.set_cons_succ]
      refine wpList_run rfl (.bool false) (by simp [go_sem]) ?_
      simp only [Act.put, List.setIfInBounds_toArray, List.set_cons_zero, List.set_cons_succ]
      refine wpList_run rfl (.bool false) (by simp [go_sem]) ?_
      simp only [Act.put, List.setIfInBounds_toArray, List.set_cons_zero, List.set_cons_succ]
      refine wpList_runW rfl (.slice v8o (cP (fs 0) + 2) v8c) (by simp [go_sem]) ?_
      simp only [Act.put, List.setIfInBounds_toArray, List.set_cons_zero, List.set_cons_succ]
      refine wpList_runW rfl (.slice (some a) m cap) (by simp [go_sem]) ?_
      simp only [Act.put, List.setIfInBounds_toArray, List.set_cons_zero, List.set_cons_succ]
      refine wpList_runW rfl (.int .i64 (n2 : Int)) (by simp [go_sem]) ?_
      simp only [Act.put, List.setIfInBounds_toArray, List.set_cons_zero, List.set_cons_succ]
      refine wpList_runW rfl (.slice (some a) n2 cap) (by simp [go_sem, s2]) ?_
      simp only [Act.put, List.setIfInBounds_toArray, List.set_cons_zero, List.set_cons_succ]
      refine wpList_callW rfl (by simp [go_sem]) ((ke.out).mono ?_)
      rintro e w9 ⟨r, rfl, hr, hX9⟩
      refine ⟨_, rfl, ?_⟩
      simp only [Act.put, List.setIfInBounds_toArray, List.set_cons_zero, List.set_cons_succ]
      have hE9 := hideit (Ext.trans hE8.out hX9)
      replace hD7 := hideit (hD7.out.ext hX9)
      clear ke hX9 hE8 s2 s3
      cases r with
      | true =>
        have htx : Hid (isTx x ls fs) := ⟨hok.out, by rw [← hn2]; rw [← hn2] at hr; exact hr.1 rfl⟩
        clear hr hok
        refine wpList_runW rfl (.bool false) (by simp [go_sem]) ?_
        simp only [Act.put, List.setIfInBounds_toArray, List.set_cons_zero, List.set_cons_succ]
        refine wpList_run rfl (.bool false) (by simp [go_sem]) ?_
        simp only [Act.put, List.setIfInBounds_toArray, List.set_cons_zero, List.set_cons_succ]
        go_wp2
        refine bodyPost_ret (results_tmp3 rfl _ _ _) rfl ?_
        exact paq_yes hE9.out htx.out _ us7 (by rw [← hn2]; rfl) hD7.out
      | false =>
        have htx : Hid (¬ isTx x ls fs) := fun h => by
          have q := h.2
          rw [← hn2] at q hr
          have := hr.2 q
          cases this
        clear hr hok
        refine wpList_runW rfl (.bool true) (by simp [go_sem]) ?_
        simp only [Act.put, List.setIfInBounds_toArray, List.set_cons_zero, List.set_cons_succ]
        refine wpList_run rfl (.bool true) (by simp [go_sem]) ?_
        simp only [Act.put, List.setIfInBounds_toArray, List.set_cons_zero, List.set_cons_succ]
        go_wp2
        refine bodyPost_ret (results_tmp3 rfl _ _ _) rfl ?_
        exact paq_no hE9.out htx.out rfl
    · have kb := hideit (blocks_no x (.slice v7o (cP (fs 0)) v7c) (cP (fs 0)) (bP (fs 0)) us7 (fun i => ls (i + 1)) (unL ls fs) w7 hRL.out (fun i _ => bP_ok (fs 0) i) (by omega) hok)
      have htx : Hid (¬ isTx x ls fs) := fun h => hok h.1
      clear hok hT hP hpre
      go_upto_region 8 with (fail)
      refine wp_region_lit ?_
      refine wpList_run rfl (.int .u64 (x.toNat : Int)) (by simp [go_sem]) ?_
      simp only [Act.put, List.setIfInBounds_toArray, List.set_cons_zero, List.set_cons_succ]
      refine wpList_run rfl (.slice v7o (cP (fs 0)) v7c) (by simp [go_sem]) ?_
      simp only [Act.put, List.setIfInBounds_toArray, List.set_cons_zero, List.set_cons_succ]
      refine wpList_call rfl (by simp [go_sem]) ((kb.out).mono ?_)
      rintro e w8 ⟨rfl, hX8⟩
      refine ⟨_, rfl, ?_⟩
      simp only [Act.put, List.setIfInBounds_toArray, List.set_cons_zero, List.set_cons_succ]
      have hE8 := hideit (Ext.trans hE7.out hX8)
      clear kb hRL hX8 hE7 hD7
      refine wpList_run rfl (.tuple #[.slice none 0 0, .int .i64 1]) (by simp [go_sem]) ?_
      simp only [Act.put, List.setIfInBounds_toArray, List.set_cons_zero, List.set_cons_succ]
      refine wpList_run rfl (.slice none 0 0) (by simp [go_sem]) ?_
      simp only [Act.put, List.setIfInBounds_toArray, List.set_cons_zero, List.set_cons_succ]
      refine wpList_run rfl (.int .i64 1) (by simp [go_sem]) ?_
      simp only [Act.put, List.setIfInBounds_toArray, List.set_cons_zero, List.set_cons_succ]
      refine wpList_run rfl (.slice none 0 0) (by simp [go_sem]) ?_
      simp only [Act.put, List.setIfInBounds_toArray, List.set_cons_zero, List.set_cons_succ]
      refine wpList_run rfl (.int .i64 1) (by simp [go_sem]) ?_
      simp only [Act.put, List.setIfInBounds_toArray, List.set_cons_zero, List.set_cons_succ]
      go_upto_region 9 with (fail)
      refine wp_region_lit ?_
      refine wpList_run rfl (.int .i64 1) (by simp [go_sem]) ?_
      simp only [Act.put, List.setIfInBounds_toArray, List.set_cons_zero, List.set_cons_succ]
      refine wpList_run rfl (.bool true) (by simp [go_sem]) ?_
      simp only [Act.put, List.setIfInBounds_toArray, List.set_cons_zero, List.set_cons_succ]
      refine wpList_run rfl (.bool true) (by simp [go_sem]) ?_
      simp only [Act.put, List.setIfInBounds_toArray, List.set_cons_zero, List.set_cons_succ]
      refine wpList_skip rfl ?_
      simp only [Act.put, List.setIfInBounds_toArray, List.set_cons_zero, List.set_cons_succ]
      refine wpList_skip rfl ?_
      simp only [Act.put, List.setIfInBounds_toArray, List.set_cons_zero, List.set_cons_succ]
      refine wpList_skip rfl ?_
      simp only [Act.put, List.setIfInBounds_toArray, List.set_cons_zero, List.set_cons_succ]
      refine wpList_skip rfl ?_
      simp only [Act.put, List.setIfInBounds_toArray, List.set_cons_zero, List.set_cons_succ]
      refine wpList_skip rfl ?_
      simp only [Act.put, List.setIfInBounds_toArray, List.set_cons_zero, List.set_cons_succ]
      refine wpList_skip rfl ?_
      simp only [Act.put, List.setIfInBounds_toArray, List.set_cons_zero, List.set_cons_succ]
      refine wpList_run rfl (.bool true) (by simp [go_sem]) ?_
      simp only [Act.put, List.setIfInBounds_toArray, List.set_cons_zero, List.set_cons_succ]
      go_wp2
      refine bodyPost_ret (results_tmp3 rfl _ _ _) rfl ?_
      exact paq_no hE8.out htx.out rfl
  · exact absurd hpl hnp
theorem parse_yesB (x : BitVec 64) (vb : Value) (m : Nat) (us : Nat → Value) (ls : Nat → Nat) (fs : Nat → Nat → BitVec 8) (w : World) (hT : TabC w) (hP : PL vb m us ls fs w) (h0 : 0 < m → BV (us 0) (ls 0) (fs 0) w) (hls : ∀ i, i < m → ls i ≤ 140737488355328) (hm : m ≤ 5900000000000) (hh : hasP x m ls fs) (ht : isTx x ls fs) : Calls Tryd.prog 12 #[.int .u64 (x.toNat : Int), vb] w fun e w' => ∃ v us', e = .returned (.tuple #[v, .int .i64 ((cP (fs 0) + 2 : Nat) : Int), .int .i64 0]) ∧ RDs w.heap.size v (cP (fs 0)) (bP (fs 0)) us' (fun i => ls (i + 1)) (unL ls fs) w' ∧ Ext w w' := by
  refine (parse_someB x vb m us ls fs w hT hP h0 hls hm hh).mono fun e w' ⟨hX, h⟩ => ?_
  rcases h with ⟨_, v, us', he, hD⟩ | ⟨h, _⟩
  · exact ⟨v, us', he, hD, hX⟩
  · exact absurd ht h
theorem parse_notB (x : BitVec 64) (vb : Value) (m : Nat) (us : Nat → Value) (ls : Nat → Nat) (fs : Nat → Nat → BitVec 8) (w : World) (hT : TabC w) (hP : PL vb m us ls fs w) (h0 : 0 < m → BV (us 0) (ls 0) (fs 0) w) (hls : ∀ i, i < m → ls i ≤ 140737488355328) (hm : m ≤ 5900000000000) (hh : ¬ (hasP x m ls fs ∧ isTx x ls fs)) : Calls Tryd.prog 12 #[.int .u64 (x.toNat : Int), vb] w fun e w' => e = .returned (.tuple #[.slice none 0 0, .int .i64 0, .int .i64 110]) ∧ Ext w w' := by
  by_cases h1 : hasP x m ls fs
  · refine (parse_someB x vb m us ls fs w hT hP h0 hls hm h1).mono fun e w' ⟨hX, h⟩ => ?_
    rcases h with ⟨h, _⟩ | ⟨_, he⟩
    · exact absurd ⟨h1, h⟩ hh
    · exact ⟨he, hX⟩
  · exact parse_noneB x vb m us ls fs w hP h0 hls hm h1
end Go.Proofs.YtedgopionpdfeaaDoor
