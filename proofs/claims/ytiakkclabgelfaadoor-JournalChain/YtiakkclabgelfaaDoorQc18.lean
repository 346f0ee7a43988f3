/-
  Parts handed on, in order; a block of parts; the digest of parts. Bytes compared; whether bytes begin like a journal's block.
-/
import Derived.Test.YtiakkclabgelfaaDoorQc1
import Derived.Test.YtiakkclabgelfaaDoorQc17
namespace Go.Proofs.YtiakkclabgelfaaDoor
set_option maxRecDepth 20000
open Go.RowKit Go.BigFrame
theorem cell_ext' {w X : World} (k : Ext w X) {a : Addr} {v : Value} (h : w.cell? a = some v) : X.cell? a = some v := (Below.cell k (p := a) (World.block_lt_of_cell? w a h)).trans h
theorem allF_succ (ls : Nat → Nat) (bs : Nat → Nat → BitVec 8) (k : Nat) : allF ls bs (k + 1) = catF (allF ls bs k) (sumL ls k) (bs k) := by
  show catF (joinF _ 0 ls bs k) (0 + sumL ls k) (bs k) = _
  rw [Nat.zero_add]
  rfl
theorem sumL_succ (ls : Nat → Nat) (k : Nat) : sumL ls (k + 1) = sumL ls k + ls k := rfl
theorem below_ext {w0 X Y : World} {c : Nat} (h : Ext w0 X) (hc : w0.heap.size ≤ c) (k : Below c X Y) : Ext w0 Y := Below.trans h (Below.mono k hc)
set_option maxRecDepth 20000 in
set_option maxHeartbeats 4000000 in
theorem eachW {c size : Nat} {v : Value} {n : Nat} {us : Nat → Value} {ls : Nat → Nat} {bs : Nat → Nat → BitVec 8} {w0 w : World} (h : Wr c size 0 (fun _ => 0#8) false w) (hs : sumL ls n ≤ size) (hz : size ≤ 16777216) (hP : Parts v n us ls bs w0) (h0 : Ext w0 w) (hc : w0.heap.size ≤ c) (hn : n ≤ 4398046511104) : Calls Tryd.prog 73 #[.func (.func 72) #[.pointer (some ⟨c, 0, none⟩)] #[], v] w fun e w' => e = .returned (.tuple #[]) ∧ Wr c size (sumL ls n) (allF ls bs n) false w' ∧ Ext w0 w' := by
  obtain ⟨o, cap, rfl⟩ : ∃ o cap, v = .slice o n cap := by
    rcases hP.1 with ⟨h1, h2⟩ | ⟨a, cap, h1, _⟩
    · exact ⟨none, 0, by rw [h1, h2]⟩
    · exact ⟨_, cap, h1⟩
  have hel : Hid (∀ k, k < n → ∃ a, o = some a ∧ w0.cell? (a.add k) = some (us k) ∧ BV (us k) (ls k) (bs k) w0) := fun k hk => by
    rcases hP.1 with ⟨_, h2⟩ | ⟨a, cap', h1, _, h3⟩
    · omega
    · injection h1 with e1 _ _
      exact ⟨a, e1, h3.1 k hk, hP.2 k hk⟩
  replace h := hideit h
  clear hP
  replace h0 := hideit h0
  go_enter Tryd.func73, Tryd.ntmps73
  go_wp2
  go_loopw [5, 8] (fun _ iv X => ∃ k : Nat, k ≤ n ∧ iv = .int .i64 (k : Int) ∧ Wr c size (sumL ls k) (allF ls bs k) false X ∧ Ext w0 X) (fun _ iv _ => 5000000000000 - (intOf iv).toNat)
  case atStart => exact ⟨0, Nat.zero_le _, rfl, h.out, h0.out⟩
  case round =>
    obtain ⟨k, hk, rfl, hI, hE⟩ := hrel
    by_cases hlt : k < n
    · have k0 : (0 : Int) ≤ (k : Int) := by omega
      have k1 : (k : Int) < (n : Int) := by omega
      obtain ⟨a, rfl, hcell, hbv⟩ := hel.out k hlt
      have ec := cell_ext' hE hcell
      obtain ⟨ok, ck, hu⟩ := hbv.form
      rw [hu] at ec
      have hm := sumL_mono ls (k + 1) n (by omega)
      rw [sumL_succ] at hm
      have kk : Hid (Calls Tryd.prog 72 #[.pointer (some ⟨c, 0, none⟩), .slice ok (ls k) ck] wr fun e w' => e = .returned (.tuple #[]) ∧ Wr c size (sumL ls (k + 1)) (allF ls bs (k + 1)) false w' ∧ Ext w0 w') := by
        refine (wbytes_ok c size (sumL ls k) (ls k) (allF ls bs k) (bs k) false _ wr hI (by omega) hz (by rw [← hu]; exact hbv.ext hE)).mono ?_
        rintro e w9 ⟨rfl, h1, h2⟩
        refine ⟨rfl, ?_, below_ext hE hc h2⟩
        rw [allF_succ, sumL_succ]
        exact h1
      clear hI hbv hm hcell hu hE
      go_upto_region 1 with (fail)
      refine wp_region_lit ?_
      refine wpList_run rfl (.bool true) (by simp [go_sem, k1]) ?_
      simp only [zp0, zp1, zp2, zp3]
      go_upto_region 2 with (fail)
      refine wp_region_lit ?_
      refine wpList_run rfl (.pointer (some (a.add k))) (by simp [go_sem, k1]) ?_
      simp only [zp0, zp1, zp2, zp3]
      refine wpList_run rfl (.slice ok (ls k) ck) (by simp [go_sem, ec]) ?_
      simp only [zp0, zp1, zp2, zp3]
      refine wpList_run rfl (.slice ok (ls k) ck) (by simp [go_sem]) ?_
      simp only [zp0, zp1, zp2, zp3]
      clear ec
      go_upto_region 3 with (fail)
      refine wp_region_lit ?_
      refine wpList_run rfl (.func (.func 72) #[.pointer (some ⟨c, 0, none⟩)] #[]) (by simp [go_sem]) ?_
      simp only [zp0, zp1, zp2, zp3]
      refine wpList_run rfl (.slice ok (ls k) ck) (by simp [go_sem]) ?_
      simp only [zp0, zp1, zp2, zp3]
      refine wpList_call rfl (by simp [go_sem]) ((kk.out).mono ?_)
      rintro e w9 ⟨rfl, hI9, hE9⟩
      refine ⟨_, rfl, ?_⟩
      simp only [zp0, zp1, zp2, zp3]
      clear kk
      go_wp2
      exact ⟨⟨k + 1, by omega, by go_num, hI9, hE9⟩, by simp [intOf]; omega⟩
    · obtain rfl : k = n := by omega
      have k1 : ¬ (k : Int) < (k : Int) := by omega
      replace hI := hideit hI
      replace hE := hideit hE
      go_wp2
      exact bodyPost_end (v := .tuple #[]) (by simp [results, Tryd.results73]) rfl ⟨rfl, hI.out, hE.out⟩
set_option maxRecDepth 20000 in
set_option maxHeartbeats 4000000 in
theorem eachH {c : Nat} {v : Value} {n : Nat} {us : Nat → Value} {ls : Nat → Nat} {bs : Nat → Nat → BitVec 8} {w0 w : World} (h : HashOf c (fun _ => 0#8) 0 w) (hT : TabC w0) (hs : sumL ls n ≤ 1000000000000) (hP : Parts v n us ls bs w0) (h0 : Ext w0 w) (hc : w0.heap.size ≤ c) (hn : n ≤ 4398046511104) : Calls Tryd.prog 73 #[.func (.func 75) #[.pointer (some ⟨c, 0, none⟩)] #[], v] w fun e w' => e = .returned (.tuple #[]) ∧ HashOf c (allF ls bs n) (sumL ls n) w' ∧ Ext w0 w' := by
  obtain ⟨o, cap, rfl⟩ : ∃ o cap, v = .slice o n cap := by
    rcases hP.1 with ⟨h1, h2⟩ | ⟨a, cap, h1, _⟩
    · exact ⟨none, 0, by rw [h1, h2]⟩
    · exact ⟨_, cap, h1⟩
  have hel : Hid (∀ k, k < n → ∃ a, o = some a ∧ w0.cell? (a.add k) = some (us k) ∧ BV (us k) (ls k) (bs k) w0) := fun k hk => by
    rcases hP.1 with ⟨_, h2⟩ | ⟨a, cap', h1, _, h3⟩
    · omega
    · injection h1 with e1 _ _
      exact ⟨a, e1, h3.1 k hk, hP.2 k hk⟩
  replace h := hideit h
  replace hT := hideit hT
  clear hP
  replace h0 := hideit h0
  go_enter Tryd.func73, Tryd.ntmps73
  go_wp2
  go_loopw [5, 8] (fun _ iv X => ∃ k : Nat, k ≤ n ∧ iv = .int .i64 (k : Int) ∧ HashOf c (allF ls bs k) (sumL ls k) X ∧ Ext w0 X) (fun _ iv _ => 5000000000000 - (intOf iv).toNat)
  case atStart => exact ⟨0, Nat.zero_le _, rfl, h.out, h0.out⟩
  case round =>
    obtain ⟨k, hk, rfl, hI, hE⟩ := hrel
    by_cases hlt : k < n
    · have k0 : (0 : Int) ≤ (k : Int) := by omega
      have k1 : (k : Int) < (n : Int) := by omega
      obtain ⟨a, rfl, hcell, hbv⟩ := hel.out k hlt
      have ec := cell_ext' hE hcell
      obtain ⟨ok, ck, hu⟩ := hbv.form
      rw [hu] at ec
      have hm := sumL_mono ls (k + 1) n (by omega)
      rw [sumL_succ] at hm
      have hc0 : c ≠ 0 := fun e => by have := hT.out.2; omega
      have kk : Hid (Calls Tryd.prog 75 #[.pointer (some ⟨c, 0, none⟩), .slice ok (ls k) ck] wr fun e w' => e = .returned (.tuple #[]) ∧ HashOf c (allF ls bs (k + 1)) (sumL ls (k + 1)) w' ∧ Ext w0 w') := by
        rw [allF_succ, sumL_succ]
        rw [hu] at hbv
        rcases hbv with ⟨e1, e2⟩ | ⟨a', cp, e1, e2, e3⟩
        · injection e1 with q1 q2 q3
          subst q1
          subst q3
          rw [e2]
          refine (write_none c wr).mono ?_
          rintro e w9 ⟨rfl, rfl⟩
          exact ⟨rfl, hI.congr fun j hj => by unfold catF; rw [if_pos (by omega)], hE⟩
        · injection e1 with q1 q2 q3
          subst q1
          subst q3
          refine (write_any c (sumL ls k) (ls k) ck (allF ls bs k) (bs k) a' wr hI (TabC.ext hT.out hE) (e3.carry hE) e2 (by have := e3.2; omega) hc0 (by omega)).mono ?_
          rintro e w9 ⟨rfl, h1, h2⟩
          exact ⟨rfl, h1, Below.trans hE (But.below h2 hc (Below.size hE))⟩
      clear hI hbv hm hcell hu hE hc0
      go_upto_region 1 with (fail)
      refine wp_region_lit ?_
      refine wpList_run rfl (.bool true) (by simp [go_sem, k1]) ?_
      simp only [zp0, zp1, zp2, zp3]
      go_upto_region 2 with (fail)
      refine wp_region_lit ?_
      refine wpList_run rfl (.pointer (some (a.add k))) (by simp [go_sem, k1]) ?_
      simp only [zp0, zp1, zp2, zp3]
      refine wpList_run rfl (.slice ok (ls k) ck) (by simp [go_sem, ec]) ?_
      simp only [zp0, zp1, zp2, zp3]
      refine wpList_run rfl (.slice ok (ls k) ck) (by simp [go_sem]) ?_
      simp only [zp0, zp1, zp2, zp3]
      clear ec
      go_upto_region 3 with (fail)
      refine wp_region_lit ?_
      refine wpList_run rfl (.func (.func 75) #[.pointer (some ⟨c, 0, none⟩)] #[]) (by simp [go_sem]) ?_
      simp only [zp0, zp1, zp2, zp3]
      refine wpList_run rfl (.slice ok (ls k) ck) (by simp [go_sem]) ?_
      simp only [zp0, zp1, zp2, zp3]
      refine wpList_call rfl (by simp [go_sem]) ((kk.out).mono ?_)
      rintro e w9 ⟨rfl, hI9, hE9⟩
      refine ⟨_, rfl, ?_⟩
      simp only [zp0, zp1, zp2, zp3]
      clear kk
      go_wp2
      exact ⟨⟨k + 1, by omega, by go_num, hI9, hE9⟩, by simp [intOf]; omega⟩
    · obtain rfl : k = n := by omega
      have k1 : ¬ (k : Int) < (k : Int) := by omega
      replace hI := hideit hI
      replace hE := hideit hE
      go_wp2
      exact bodyPost_end (v := .tuple #[]) (by simp [results, Tryd.results73]) rfl ⟨rfl, hI.out, hE.out⟩
set_option maxRecDepth 20000 in
set_option maxHeartbeats 4000000 in
theorem blk_any {v : Value} {n : Nat} {us : Nat → Value} {ls : Nat → Nat} {bs : Nat → Nat → BitVec 8} {w : World} (hP : Parts v n us ls bs w) (hn : n ≤ 4398046511104) (hs : sumL ls n ≤ 512) : Calls Tryd.prog 53 #[v] w fun e w' => ∃ g, e = .returned (.slice (some ⟨g, 0, none⟩) 512 512) ∧ w.heap.size ≤ g ∧ RowAt g 512 (yv (padF (allF ls bs n) (sumL ls n))) w' ∧ Ext w w' := by
  have kn := hideit (neww_any 512 (fun _ => 0#8) w (by decide))
  replace hP := hideit hP
  go_enter Tryd.func53, Tryd.ntmps53
  go_upto_region 1 with (fail)
  refine wp_region_lit ?_
  refine wpList_call rfl (by simp [go_sem]) ((kn.out).mono ?_)
  rintro e w1 ⟨rfl, hW1, hX1⟩
  refine ⟨_, rfl, ?_⟩
  simp only [zp0, zp1, zp2, zp3]
  refine wpList_run rfl (.pointer (some ⟨w.heap.size, 0, none⟩)) (by simp [go_sem]) ?_
  simp only [zp0, zp1, zp2, zp3]
  obtain ⟨c, hc⟩ : ∃ c, c = w.heap.size := ⟨_, rfl⟩
  rw [← hc] at hW1 ⊢
  have ke := hideit (eachW hW1 hs (by decide) hP.out hX1 (by omega) hn)
  clear kn hW1 hX1
  go_upto_region 2 with (fail)
  refine wp_region_lit ?_
  refine wpList_run rfl (.pointer (some ⟨c, 0, none⟩)) (by simp [go_sem]) ?_
  simp only [zp0, zp1, zp2, zp3]
  refine wpList_run rfl (.func (.func 72) #[.pointer (some ⟨c, 0, none⟩)] #[]) (by simp [go_sem]) ?_
  simp only [zp0, zp1, zp2, zp3]
  refine wpList_run rfl (v) (by simp [go_sem]) ?_
  simp only [zp0, zp1, zp2, zp3]
  refine wpList_call rfl (by simp [go_sem]) ((ke.out).mono ?_)
  rintro e w2 ⟨rfl, hW2, hE2⟩
  refine ⟨_, rfl, ?_⟩
  simp only [zp0, zp1, zp2, zp3]
  have kd := hideit (wdone_ok c 512 (sumL ls n) _ w2 hW2 hs (by decide))
  clear ke hW2
  go_upto_region 3 with (fail)
  refine wp_region_lit ?_
  refine wpList_run rfl (.pointer (some ⟨c, 0, none⟩)) (by simp [go_sem]) ?_
  simp only [zp0, zp1, zp2, zp3]
  refine wpList_call rfl (by simp [go_sem]) ((kd.out).mono ?_)
  rintro e w5 ⟨g, rfl, hg, hR, hX5⟩
  refine ⟨_, rfl, ?_⟩
  simp only [zp0, zp1, zp2, zp3]
  refine wpList_run rfl (.tuple #[.slice (some ⟨g, 0, none⟩) 512 512, .int .i64 0]) (by simp [go_sem]) ?_
  simp only [zp0, zp1, zp2, zp3]
  refine wpList_run rfl (.slice (some ⟨g, 0, none⟩) 512 512) (by simp [go_sem]) ?_
  simp only [zp0, zp1, zp2, zp3]
  refine wpList_run rfl (.int .i64 0) (by simp [go_sem]) ?_
  simp only [zp0, zp1, zp2, zp3]
  refine wpList_run rfl (.slice (some ⟨g, 0, none⟩) 512 512) (by simp [go_sem]) ?_
  simp only [zp0, zp1, zp2, zp3]
  refine wpList_run rfl (.int .i64 0) (by simp [go_sem]) ?_
  simp only [zp0, zp1, zp2, zp3]
  have hg' : Hid (w.heap.size ≤ g) := Nat.le_trans (Below.size hE2) hg
  have hE5 := hideit (Ext.trans hE2 hX5)
  replace hR := hideit hR
  clear kd hg hX5 hE2 hc
  go_wp2
  go_ret
  exact ⟨g, rfl, hg'.out, hR.out, hE5.out⟩
theorem zero74 (w : World) : (zeroValue 112).run Tryd.prog w = .ok (.agg (row 32 (yv fun _ => 0#8)).toArray) w := by kernel_rfl
theorem info74 : (Tryd.prog.info? 112).map (·.size) = some 32 := by kernel_rfl
theorem exec_alloc74 {o : Oper} {a : Act} {w : World} (ho : o.op = .alloc 112) : (execOp a.eval o).run Tryd.prog w = .ok (.value (.pointer (some ⟨w.heap.size, 0, none⟩))) (w.alloc (.cells (row 32 (yv fun _ => 0#8)).toArray 112)) := by
  unfold execOp
  simp only [ho, Instr.alloc, zero74, newVar, newRow, Value.cells, Sem.run_bind, Sem.run_pure, Result.andThen_ok]
  rfl
theorem cut74 (b : Nat) (X : World) : Sem.run Tryd.prog (Instr.sliceAt 112 (.pointer (some ⟨b, 0, none⟩)) none none none) X = .ok (.slice (some ⟨b, 0, none⟩) 32 32) X := by kernel_rfl
theorem hash_zero {c : Nat} {w : World} (h : HashAt c fT (fun _ => 0#8) 0 w) : HashOf c (fun _ => 0#8) 0 w := by
  unfold HashOf
  rw [pend_zero]
  exact h
set_option maxRecDepth 20000 in
set_option maxHeartbeats 4000000 in
theorem digest_of {v : Value} {n : Nat} {us : Nat → Value} {ls : Nat → Nat} {bs : Nat → Nat → BitVec 8} {w : World} (hP : Parts v n us ls bs w) (hT : TabC w) (hn : n ≤ 4398046511104) (hs : sumL ls n ≤ 1000000000000) : Calls Tryd.prog 54 #[v] w fun e w' => ∃ g, e = .returned (.slice (some ⟨g, 0, none⟩) 32 32) ∧ w.heap.size ≤ g ∧ RowAt g 32 (yv (shaF (allF ls bs n) (sumL ls n))) w' ∧ Ext w w' := by
  have kn := hideit (new_any w)
  replace hP := hideit hP
  replace hT := hideit hT
  go_enter Tryd.func54, Tryd.ntmps54
  go_upto_region 1 with (fail)
  refine wp_region_lit ?_
  refine wpList_call rfl (by simp [go_sem]) ((kn.out).mono ?_)
  rintro e w1 ⟨c, hc, rfl, hH1, hX1⟩
  refine ⟨_, rfl, ?_⟩
  simp only [zp0, zp1, zp2, zp3]
  refine wpList_run rfl (.pointer (some ⟨c, 0, none⟩)) (by simp [go_sem]) ?_
  simp only [zp0, zp1, zp2, zp3]
  have ke := hideit (eachH (hash_zero hH1) hT.out hs hP.out hX1 hc hn)
  clear kn hH1 hX1
  go_upto_region 2 with (fail)
  refine wp_region_lit ?_
  refine wpList_run rfl (.pointer (some ⟨c, 0, none⟩)) (by simp [go_sem]) ?_
  simp only [zp0, zp1, zp2, zp3]
  refine wpList_run rfl (.func (.func 75) #[.pointer (some ⟨c, 0, none⟩)] #[]) (by simp [go_sem]) ?_
  simp only [zp0, zp1, zp2, zp3]
  refine wpList_run rfl (v) (by simp [go_sem]) ?_
  simp only [zp0, zp1, zp2, zp3]
  refine wpList_call rfl (by simp [go_sem]) ((ke.out).mono ?_)
  rintro e w2 ⟨rfl, hW2, hE2⟩
  refine ⟨_, rfl, ?_⟩
  simp only [zp0, zp1, zp2, zp3]
  have kd := hideit (sum_any c (sumL ls n) _ w2 hW2 (TabC.ext hT.out hE2) (by omega))
  clear ke hW2
  go_upto_region 3 with (fail)
  refine wp_region_lit ?_
  refine wpList_run rfl (.pointer (some ⟨c, 0, none⟩)) (by simp [go_sem]) ?_
  simp only [zp0, zp1, zp2, zp3]
  refine wpList_call rfl (by simp [go_sem]) ((kd.out).mono ?_)
  rintro e w3 ⟨rfl, hX3⟩
  refine ⟨_, rfl, ?_⟩
  simp only [zp0, zp1, zp2, zp3]
  have D1 := RowAt.new w3 32 (yv fun _ => 0#8) 112
  have D2 := hideit (D1.cells (g' := yv (shaF (allF ls bs n) (sumL ls n))))
  have hX4 : Ext w3 ((w3.alloc (.cells (row 32 (yv fun _ => 0#8)).toArray 112)).setCells w3.heap.size 0 (row 32 (yv (shaF (allF ls bs n) (sumL ls n))))) := below_setCells w3.heap.size (Nat.le_refl _) _ 0 _ ((Below.refl _ _).alloc (Nat.le_refl _) _)
  have hE4 := hideit (Ext.trans (Ext.trans hE2 hX3) hX4)
  have hg : Hid (w.heap.size ≤ w3.heap.size) := Below.size (Ext.trans hE2 hX3)
  refine wpList_to rfl (.pointer (some ⟨w3.heap.size, 0, none⟩)) (w3.alloc (.cells (row 32 (yv fun _ => 0#8)).toArray 112)) (exec_alloc74 rfl) ?_
  simp only [zp0, zp1, zp2, zp3]
  refine wpList_store_mid rfl 112 (.tmp 4) (.tmp 11) rfl w3.heap.size 0 (row 32 (yv (shaF (allF ls bs n) (sumL ls n)))).toArray rfl rfl (by rw [row_size]; exact D1.there) (by rw [row_size]; exact info74) (row_one fun j _ => rfl) ?_
  rw [show (row 32 (yv (shaF (allF ls bs n) (sumL ls n)))).toArray.toList = row 32 (yv (shaF (allF ls bs n) (sumL ls n))) from rfl]
  generalize (w3.alloc (.cells (row 32 (yv fun _ => 0#8)).toArray 112)).setCells w3.heap.size 0 (row 32 (yv (shaF (allF ls bs n) (sumL ls n)))) = w4 at *
  generalize w3.heap.size = g at *
  clear kd D1 hX4 hX3 hE2
  have hcut := cut74 g w4
  simp only [Act.put]
  go_upto_region 4 with (fail)
  refine wp_region_lit ?_
  refine wpList_run rfl (.slice (some ⟨g, 0, none⟩) 32 32) (by simp [go_sem, hcut]) ?_
  simp only [zp0, zp1, zp2, zp3]
  refine wpList_run rfl (.slice (some ⟨g, 0, none⟩) 32 32) (by simp [go_sem]) ?_
  simp only [zp0, zp1, zp2, zp3]
  clear hcut
  go_wp2
  go_ret
  exact ⟨g, rfl, hg.out, D2.out, hE4.out⟩
end Go.Proofs.YtiakkclabgelfaaDoor
namespace Go.Proofs.YtiakkclabgelfaaDoor
set_option maxRecDepth 20000
open Go.RowKit Go.BigFrame
theorem push_list : ∀ (l : List Int) (r : ByteArray), (l.foldl (fun r n => r.push (UInt8.ofNat n.toNat)) r).data.toList = r.data.toList ++ l.map fun n => UInt8.ofNat n.toNat
  | [], r => by simp
  | n :: l, r => by
    rw [List.foldl_cons, push_list l]
    simp [ByteArray.push]
theorem bstr_data (n : Nat) (f : Nat → BitVec 8) : (bstr n fun j => ((f j).toNat : Int)).data.toList = (List.range n).map fun j => UInt8.ofNat (f j).toNat := by
  unfold bstr
  rw [push_list]
  show [] ++ _ = _
  rw [List.nil_append, List.map_map]
  rfl
theorem bstr_inj (n m : Nat) (f g : Nat → BitVec 8) : (bstr n fun j => ((f j).toNat : Int)) = (bstr m fun j => ((g j).toNat : Int)) ↔ n = m ∧ ∀ j, j < n → f j = g j := by
  constructor
  · intro h
    have h1 : (bstr n fun j => ((f j).toNat : Int)).data.toList = (bstr m fun j => ((g j).toNat : Int)).data.toList := by rw [h]
    rw [bstr_data, bstr_data] at h1
    have hl : n = m := by simpa using congrArg List.length h1
    subst hl
    refine ⟨rfl, fun j hj => ?_⟩
    have h2 := congrArg (fun l => l[j]?) h1
    simp only [List.getElem?_map, List.getElem?_range hj, Option.map_some, Option.some.injEq] at h2
    have h3 := congrArg UInt8.toNat h2
    simp only [UInt8.toNat_ofNat'] at h3
    apply BitVec.eq_of_toNat_eq
    have := (f j).isLt
    have := (g j).isLt
    omega
  · rintro ⟨rfl, h⟩
    exact bstr_congr fun j hj => by rw [h j hj]
def eqB (n m : Nat) (f g : Nat → BitVec 8) : Bool := decide (n = m ∧ ∀ j, j < n → f j = g j)
theorem ba_ext {a b : ByteArray} (h : a.toList = b.toList) : a = b := by
  rw [ByteArray.toList_eq, ByteArray.toList_eq] at h
  cases a
  cases b
  simp at h
  rw [h]
theorem streq_run (op : BinOp) (a b : ByteArray) (r : Bool) (h : a = b ↔ r = true) (w : World) : (binOp .eql 9 (.string a) (.string b)).run Tryd.prog w = .ok (.bool r) w ∧ (binOp .neq 9 (.string a) (.string b)).run Tryd.prog w = .ok (.bool !r) w := by
  have _ := op
  cases r with
  | true =>
    have := h.2 rfl
    subst this
    simp [go_sem]
  | false =>
    have h1 : ¬ a.toList = b.toList := fun e => by have := h.1 (ba_ext e); cases this
    simp [go_sem, h1]
theorem eqB_iff (n m : Nat) (f g : Nat → BitVec 8) : (bstr n fun j => ((f j).toNat : Int)) = (bstr m fun j => ((g j).toNat : Int)) ↔ eqB n m f g = true := by
  rw [bstr_inj]
  unfold eqB
  simp
set_option maxRecDepth 20000 in
set_option maxHeartbeats 4000000 in
theorem equal_any (u v : Value) (n m : Nat) (f g : Nat → BitVec 8) (w : World) (hu : BV u n f w) (hv : BV v m g w) : Calls Tryd.prog 61 #[u, v] w fun e w' => e = .returned (.bool (eqB n m f g)) ∧ w' = w := by
  have ca := convV u n f w hu
  have cb := convV v m g w hv
  have ce := eqB_iff n m f g
  generalize (bstr n fun j => ((f j).toNat : Int)) = a at *
  generalize (bstr m fun j => ((g j).toNat : Int)) = b at *
  generalize eqB n m f g = r at *
  clear hu hv
  cases r with
  | true =>
    have hab := ce.2 rfl
    subst hab
    clear ce
    go_enter Tryd.func61, Tryd.ntmps61
    go_upto_region 1 with (fail)
    refine wp_region_lit ?_
    refine wpList_run rfl (u) (by simp [go_sem]) ?_
    simp only [zp0, zp1, zp2, zp3]
    refine wpList_run rfl (.string a) (by simp [go_sem, ca]) ?_
    simp only [zp0, zp1, zp2, zp3]
    refine wpList_run rfl (v) (by simp [go_sem]) ?_
    simp only [zp0, zp1, zp2, zp3]
    refine wpList_run rfl (.string a) (by simp [go_sem, cb]) ?_
    simp only [zp0, zp1, zp2, zp3]
    refine wpList_run rfl (.bool true) (by simp [go_sem]) ?_
    simp only [zp0, zp1, zp2, zp3]
    refine wpList_run rfl (.bool true) (by simp [go_sem]) ?_
    simp only [zp0, zp1, zp2, zp3]
    clear ca cb
    go_wp2
    go_ret
    exact ⟨rfl, rfl⟩
  | false =>
    have h1 : ¬ a.toList = b.toList := fun e => by have := ce.1 (ba_ext e); cases this
    clear ce
    go_enter Tryd.func61, Tryd.ntmps61
    go_upto_region 1 with (fail)
    refine wp_region_lit ?_
    refine wpList_run rfl (u) (by simp [go_sem]) ?_
    simp only [zp0, zp1, zp2, zp3]
    refine wpList_run rfl (.string a) (by simp [go_sem, ca]) ?_
    simp only [zp0, zp1, zp2, zp3]
    refine wpList_run rfl (v) (by simp [go_sem]) ?_
    simp only [zp0, zp1, zp2, zp3]
    refine wpList_run rfl (.string b) (by simp [go_sem, cb]) ?_
    simp only [zp0, zp1, zp2, zp3]
    refine wpList_run rfl (.bool false) (by simp [go_sem, h1]) ?_
    simp only [zp0, zp1, zp2, zp3]
    refine wpList_run rfl (.bool false) (by simp [go_sem]) ?_
    simp only [zp0, zp1, zp2, zp3]
    clear ca cb h1
    go_wp2
    go_ret
    exact ⟨rfl, rfl⟩
def PV (u : Value) (l : Nat) (b : Nat → BitVec 8) (w : World) : Prop := (u = .slice none 0 0 ∧ l = 0) ∨ ∃ a cap, u = .slice (some a) l cap ∧ l ≤ cap ∧ ∀ j, j < l → w.cell? (a.add j) = some (yv b j)
theorem PV.ext {u : Value} {l : Nat} {b : Nat → BitVec 8} {w X : World} (h : PV u l b w) (k : Ext w X) : PV u l b X := by
  rcases h with h | ⟨a, cap, h1, h2, h3⟩
  · exact .inl h
  · exact .inr ⟨a, cap, h1, h2, fun j hj => cell_ext' k (h3 j hj)⟩
theorem PV.form {v : Value} {l : Nat} {b : Nat → BitVec 8} {w : World} (h : PV v l b w) : ∃ oa cp, v = .slice oa l cp := by
  rcases h with ⟨rfl, rfl⟩ | ⟨a, cap, rfl, _⟩
  · exact ⟨_, _, rfl⟩
  · exact ⟨_, _, rfl⟩
theorem PV.bv {u : Value} {l : Nat} {b : Nat → BitVec 8} {w : World} (h : PV u l b w) (hl : 0 < l) : BV u l b w := by
  rcases h with ⟨_, h0⟩ | ⟨a, cap, h1, h2, h3⟩
  · omega
  · refine .inr ⟨a, cap, h1, h2, h3, ?_⟩
    have := World.block_lt_of_cell? w (a.add 0) (h3 0 hl)
    rwa [add_block] at this
theorem BV.pv {v : Value} {l : Nat} {f : Nat → BitVec 8} {W : World} (h : BV v l f W) : PV v l f W := by
  rcases h with h | ⟨a, cap, h1, h2, h3⟩
  · exact .inl h
  · exact .inr ⟨a, cap, h1, h2, h3.1⟩
end Go.Proofs.YtiakkclabgelfaaDoor
