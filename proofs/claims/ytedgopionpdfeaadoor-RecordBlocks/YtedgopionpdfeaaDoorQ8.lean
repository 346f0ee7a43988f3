/-
  The digest of what came to a Hash, for every Hash in every world, of which nothing that was there turns. The digest of the document's example, step by step against tables.
-/
import Derived.Test.YtedgopionpdfeaaDoorQ7
namespace Go.Proofs.YtedgopionpdfeaaDoor
open Go.RowKit Go.BigFrame
/-- a byte of the length in bits -/
def lenB (n i : Nat) : BitVec 8 := BitVec.ofNat 8 (n * 8 / 2 ^ (56 - 8 * i))
/-- how many pieces the filled message has -/
def pieces (n : Nat) : Nat := (n + 8) / 64 + 1
/-- the filled message -/
def fillF (m : Nat → BitVec 8) (n j : Nat) : BitVec 8 := if j < n then m j else if j = n then 128#8 else if j < 64 * pieces n - 8 then 0#8 else lenB n (j - (64 * pieces n - 8))
/-- the digest of n bytes -/
def shaF (m : Nat → BitVec 8) (n : Nat) : Nat → BitVec 8 := digF (chain (fillF m n) (pieces n))
theorem lenB_fact (n i : Nat) : (n : Int) * 8 / 2 ^ (56 - 8 * i) % 256 = ((lenB n i).toNat : Int) := by
  unfold lenB
  rw [BitVec.toNat_ofNat]
  simp
theorem makes28 {o : Oper} (hg : o.guard = none) (ho : o.op = .alloc 95) : Makes Tryd.prog o 8 (wv fun _ => 0#32) := ⟨hg, fun ρ w => ⟨(row 8 (wv fun _ => 0#32)).toArray, 95, by
  unfold execOp
  rw [ho]
  simp [go_sem]
  rfl, fun j hj => by rw [List.getElem?_toArray]; exact row_get 8 _ j hj⟩⟩
theorem makes29 {o : Oper} (hg : o.guard = none) (ho : o.op = .alloc 97) : Makes Tryd.prog o 64 (yv fun _ => 0#8) := ⟨hg, fun ρ w => ⟨(row 64 (yv fun _ => 0#8)).toArray, 97, by
  unfold execOp
  rw [ho]
  simp [go_sem]
  rfl, fun j hj => by rw [List.getElem?_toArray]; exact row_get 64 _ j hj⟩⟩
theorem nil_sum (w : World) : Calls Tryd.prog 67 #[.pointer none] w fun e w' => e = .returned (.agg (row 32 (yv fun _ => 0#8)).toArray) ∧ Below w.heap.size w w' := by
  have hz := zero24
  have hb : ∀ X, (Instr.build 74 #[]).run Tryd.prog X = .ok (.agg (row 32 (yv fun _ => 0#8)).toArray) X := fun X => by kernel_rfl
  have HR0 := hideit (RowAt.new w 32 (yv fun _ => 0#8) 74)
  replace hb := hideit hb
  go_enter Tryd.func67, Tryd.ntmps67
  go_upto_region 2 with (fail)
  refine wp_region_lit ?_
  refine wpList_build rfl 74 [] rfl _ (hb.out _) ?_
  simp only [Act.put, List.setIfInBounds_toArray, List.set_cons_zero, List.set_cons_succ]
  go_wp2_with (refine wpList_store_mid rfl 74 (.tmp 2) (.tmp 9) rfl _ 0 (row 32 (yv fun _ => 0#8)).toArray rfl rfl (by rw [row_size]; exact HR0.out.there) (by rw [row_size]; exact info24) (row_one fun _ _ => rfl) ?_)
  exact bodyPost_ret (ret_row Tryd.results67 rfl (HR0.out.cells (g' := yv fun _ => 0#8)) Tryd.underlying74 rfl info24) rfl ⟨rfl, below_setCells _ (Nat.le_refl _) _ _ _ ((Below.refl _ _).alloc (Nat.le_refl _) _)⟩
/-- copies of state and piece, the answer's cell -/
def SAt (B b1 b2 : Nat) (w : World) (s : Nat → BitVec 32) (p : Nat → BitVec 8) (X : World) : Prop :=
  RowAt b1 8 (wv s) X ∧ RowAt b2 64 (yv p) X ∧ RowAt B 32 (yv fun _ => 0#8) X ∧ Ext w X ∧ w.heap.size ≤ B ∧ B < b1 ∧ B < b2 ∧ b1 ≠ b2
section
variable {B b1 b2 : Nat} {w X Y : World} {s : Nat → BitVec 32} {p : Nat → BitVec 8}
theorem SAt.ext (h : SAt B b1 b2 w s p X) (k : Ext X Y) : SAt B b1 b2 w s p Y :=
  ⟨h.1.carry k, h.2.1.carry k, h.2.2.1.carry k, Ext.trans h.2.2.2.1 k, h.2.2.2.2⟩
theorem SAt.setS (h : SAt B b1 b2 w s p X) (s' : Nat → BitVec 32) : SAt B b1 b2 w s' p (X.setCells b1 0 (row 8 (wv s'))) := by
  obtain ⟨h1, h2, h3, h4, h5, h6, h7, h8⟩ := h
  exact ⟨h1.cells, h2.cellsOther h8 _ _, h3.cellsOther (by omega) _ _, below_setCells _ (by omega) _ _ _ h4, h5, h6, h7, h8⟩
theorem SAt.setP (h : SAt B b1 b2 w s p X) (p' : Nat → BitVec 8) : SAt B b1 b2 w s p' (X.setCells b2 0 (row 64 (yv p'))) := by
  obtain ⟨h1, h2, h3, h4, h5, h6, h7, h8⟩ := h
  exact ⟨h1.cellsOther (Ne.symm h8) _ _, h2.cells, h3.cellsOther (by omega) _ _, below_setCells _ (by omega) _ _ _ h4, h5, h6, h7, h8⟩
theorem SAt.setB (h : SAt B b1 b2 w s p X) (i : Nat) (v : BitVec 8) : SAt B b1 b2 w s (fun j => if j = i then v else p j) (X.setCell ⟨b2, i, none⟩ (.int .u8 (v.toNat : Int))) := by
  obtain ⟨h1, h2, h3, h4, h5, h6, h7, h8⟩ := h
  refine ⟨h1.other _ _ (Ne.symm h8), (h2.set i _).congr fun j _ => ?_, h3.other _ _ (by show b2 ≠ B; omega), h4.setCell (by show _ ≤ b2; omega) _, h5, h6, h7, h8⟩
  simp only [yv]
  by_cases e : j = i <;> simp [e]
theorem SAt.congr (h : SAt B b1 b2 w s p X) {p' : Nat → BitVec 8} (e : ∀ j, j < 64 → p j = p' j) : SAt B b1 b2 w s p' X :=
  ⟨h.1, h.2.1.congr fun j hj => by simp only [yv, e j hj], h.2.2⟩
end
set_option maxRecDepth 20000 in
set_option maxHeartbeats 4000000 in
theorem sum_any (c n : Nat) (m : Nat → BitVec 8) (w : World) (h : HashOf c m n w) (hC : TabC w) (hN : n < 1152921504606846976) :
    Calls Tryd.prog 67 #[.pointer (some ⟨c, 0, none⟩)] w fun e w' => e = .returned (.agg (row 32 (yv (shaF m n))).toArray) ∧ Below w.heap.size w w' := by
  have hz := zero24
  have HH : HashAt c (chain m (n / 64)) (pend m n) n (w.alloc (.cells (row 32 (yv fun _ => 0#8)).toArray 74)) := RowAt.alloc h _
  have HZ := RowAt.new w 32 (yv fun _ => 0#8) 74
  have H0 := hideit h
  replace HH := hideit HH
  replace HZ := hideit HZ
  replace hC := hideit hC
  obtain ⟨F, hF⟩ : ∃ F, F = fillF m n := ⟨_, rfl⟩
  obtain ⟨R, hR⟩ : ∃ R, R = shaF m n := ⟨_, rfl⟩
  rw [← hR]
  obtain ⟨wt, hwt⟩ : ∃ wt, wt = n % 64 := ⟨_, rfl⟩
  have hwl : wt < 64 := by omega
  replace hwt := hideit hwt
  replace hF := hideit hF
  replace hR := hideit hR
  clear h
  have hwq : Hid (∀ X, Ext w X → Calls Tryd.prog 76 #[.pointer (some ⟨c, 0, none⟩)] X fun e w' => e = .returned (.int .i64 (wt : Int)) ∧ w' = X) := fun X hX => by
    have hq := waiting_any c n _ _ X (RowAt.carry H0.out hX)
    rw [← hwt.out] at hq
    exact hq
  generalize hs0 : chain m (n / 64) = s0 at *
  generalize hp0 : pend m n = p0 at *
  replace hs0 := hideit hs0
  replace hp0 := hideit hp0
  have hne := kept_ne ((w.alloc (.cells (row 32 (yv fun _ => 0#8)).toArray 74)).drew)
  go_enter Tryd.func67, Tryd.ntmps67
  go_wp2
  refine wp_region_made2s 8 8 (wv fun _ => 0#32) 64 (yv fun _ => 0#8) (wv s0) _ _ _ (by kernel_rfl) (by kernel_rfl) rfl rfl rfl (makes28 rfl rfl) (makes29 rfl rfl) ?_
  simp only [List.take_succ_cons, List.take_zero, List.drop_succ_cons, List.drop_zero]
  refine wpStrong_run 8 rfl ?_
  simp only [List.take_succ_cons, List.take_zero, List.drop_succ_cons, List.drop_zero]
  go_big_quiet_step (fail)
  go_big_quiet_step (fail)
  go_big_quiet_step (fail)
  go_big_quiet_want
  refine loadQ 95 (.tmp 12) c 0 8 (wv s0) rfl rfl (fun w' hw' => HashAt.state (RowAt.carry (RowAt.drew HH.out) hw')) Tryd.underlying95 rfl info28 ?_
  simp only [Act.put, List.setIfInBounds_toArray, List.set_cons_zero, List.set_cons_succ]
  go_big_quiet_on
  go_big_quiet_step (fail)
  go_big_quiet_step (fail)
  go_big_quiet_step (fail)
  go_big_quiet_want
  refine loadQ 97 (.tmp 16) c 8 64 (yv p0) rfl rfl (fun w' hw' => HashAt.piece (RowAt.carry (RowAt.drew HH.out) hw')) Tryd.underlying97 rfl info29 ?_
  simp only [Act.put, List.setIfInBounds_toArray, List.set_cons_zero, List.set_cons_succ]
  go_big_quiet_on
  refine wpQuiet_nil ?_
  refine wpStrong_nil ?_
  intro b1 b2 hb1 hb2 hb12
  simp only [Act.put, List.setIfInBounds_toArray, List.set_cons_zero, List.set_cons_succ]
  refine ⟨writes_row rfl 95 (.tmp 3) (.tmp 13) rfl b1 8 _ _ rfl rfl info28 (fun _ _ => rfl), fun X hX HR1 HR2 => ?_⟩
  replace HR1 := hideit HR1
  replace HR2 := hideit HR2
  refine wpList_store_mid rfl 97 (.tmp 4) (.tmp 17) rfl b2 0 (row 64 (yv p0)).toArray rfl rfl (by rw [row_size]; exact HR2.out.there) (by rw [row_size]; exact info29) (row_one fun _ _ => rfl) ?_
  have HS : SAt w.heap.size b1 b2 w s0 p0 (X.setCells b2 0 (row 64 (yv p0))) := by
    have hsz : (w.alloc (.cells (row 32 (yv fun _ => 0#8)).toArray 74)).heap.size = w.heap.size + 1 := by simp
    have hE : Ext w X := Ext.trans (((Below.refl _ _).alloc (Nat.le_refl _) _).drew) hX
    have h0 : SAt w.heap.size b1 b2 w s0 (fun _ => 0#8) X := ⟨HR1.out, HR2.out, HZ.out.drew.carry hX, hE, Nat.le_refl _, by omega, by omega, hb12⟩
    exact h0.setP p0
  replace HS := hideit HS
  clear HR1 HR2 hX hne HH HZ
  generalize X.setCells b2 0 (row 64 (yv p0)) = Y at *
  simp only [Act.put]
  have w0 : (0 : Int) ≤ (wt : Int) := by omega
  have w1 : (wt : Int) < 64 := by omega
  have eb := HS.out.2.1.1 wt hwl
  have gb := HS.out.2.1.2.1 wt hwl
  go_upto_region 5 with (go_at_call 76; refine (hwq.out _ HS.out.2.2.2.1).mono ?_; rintro e w' ⟨rfl, hw'⟩; subst hw')
  have HT0 := hideit (HS.out.setB wt 128#8)
  have hYe : (w'.setCell ⟨b2, wt, none⟩ (.int .u8 ((128#8 : BitVec 8).toNat : Int))) = w'.setCell ⟨b2, wt, none⟩ (.int .u8 128) := rfl
  rw [hYe] at HT0
  clear hYe HS eb gb
  generalize w'.setCell ⟨b2, wt, none⟩ (.int .u8 128) = Z at *
  by_cases hge : 56 ≤ wt
  · have hge56 : (56 : Int) ≤ (wt : Int) := by omega
    obtain ⟨pA, hpA⟩ : ∃ pA, pA = fun j => F (64 * (n / 64) + j) := ⟨_, rfl⟩
    obtain ⟨pB, hpB⟩ : ∃ pB, pB = fun j => F (64 * (n / 64 + 1) + j) := ⟨_, rfl⟩
    obtain ⟨s1, hs1⟩ : ∃ s1, s1 = chain F (n / 64 + 1) := ⟨_, rfl⟩
    obtain ⟨pz, hpz⟩ : ∃ pz : Nat → BitVec 8, pz = fun _ => 0#8 := ⟨_, rfl⟩
    have HT1 := hideit (HT0.out.congr (p' := pA) fun j hj => by
      rw [hpA, hF.out]
      show _ = fillF m n (64 * (n / 64) + j)
      have hw' := hwt.out
      unfold fillF
      have hpc : pieces n = n / 64 + 2 := by unfold pieces; omega
      rw [hpc]
      by_cases h1 : j = wt
      · rw [if_pos h1, if_neg (by omega), if_pos (by omega)]
      · rw [if_neg h1, ← hp0.out]
        unfold pend
        by_cases h2 : 64 * (n / 64) + j < n
        · rw [if_pos h2, if_pos h2]
        · rw [if_neg h2, if_neg h2, if_neg (by omega), if_pos (by omega)])
    have hblk := block_any s0 pA
    have hs2 : blockF s0 pA = s1 := by
      rw [hs1, hpA, ← hs0.out, hF.out]
      show _ = blockF (chain (fillF m n) (n / 64)) fun j => fillF m n (64 * (n / 64) + j)
      rw [chain_congr (m := fillF m n) (m' := m) (n / 64) fun j hj => by unfold fillF; rw [if_pos (by omega)]]
    rw [hs2] at hblk
    replace hblk := hideit hblk
    replace hpA := hideit hpA
    replace hpB := hideit hpB
    replace hs1 := hideit hs1
    replace hpz := hideit hpz
    clear hs2 HT0
    go_upto_region 6 with (go_at_call 76; refine (hwq.out _ HT1.out.2.2.2.1).mono ?_; rintro e w' ⟨rfl, hw'⟩; subst hw')
    refine wp_region_lit ?_
    refine wpList_load_mid rfl 95 (.tmp 3) rfl b1 0 rfl (row 8 (wv s0)) _ HT1.out.1.range Tryd.underlying95 rfl (by rw [row_length]; exact info28) ?_
    refine wpList_load_mid rfl 97 (.tmp 4) rfl b2 0 rfl (row 64 (yv pA)) _ HT1.out.2.1.range Tryd.underlying97 rfl (by rw [row_length]; exact info29) ?_
    simp only [Act.put, List.setIfInBounds_toArray, List.set_cons_zero, List.set_cons_succ]
    refine wpList_call rfl (by simp [go_sem]) ((hblk.out _ (hC.out.ext HT1.out.2.2.2.1)).mono ?_)
    rintro e V ⟨rfl, hV⟩
    refine ⟨_, rfl, ?_⟩
    simp only [Act.put, List.setIfInBounds_toArray, List.set_cons_zero, List.set_cons_succ]
    have HV := hideit (HT1.out.ext hV)
    clear hblk hV HT1
    refine wpList_store_mid rfl 95 (.tmp 3) (.tmp 26) rfl b1 0 (row 8 (wv s1)).toArray rfl rfl (by rw [row_size]; exact HV.out.1.there) (by rw [row_size]; exact info28) (row_one fun _ _ => rfl) ?_
    have HV1 := hideit (HV.out.setS s1)
    clear HV
    generalize V.setCells b1 0 (row 8 (wv s1)) = V1 at *
    simp only [Act.put]
    go_upto_region 7 with (fail)
    refine wp_region_lit ?_
    have hzb := zbuild29
    rw [← hpz.out] at hzb
    refine wpList_build rfl 97 [] rfl _ (hzb _) ?_
    simp only [Act.put, List.setIfInBounds_toArray, List.set_cons_zero, List.set_cons_succ]
    refine wpList_store_mid rfl 97 (.tmp 4) (.tmp 27) rfl b2 0 (row 64 (yv pz)).toArray rfl rfl (by rw [row_size]; exact HV1.out.2.1.there) (by rw [row_size]; exact info29) (row_one fun _ _ => rfl) ?_
    have HT := hideit (HV1.out.setP pz)
    clear HV1 hzb
    generalize V1.setCells b2 0 (row 64 (yv pz)) = V2 at *
    simp only [Act.put]
    go_upto_region 8 with (fail)
    have n0 : (0 : Int) ≤ (n : Int) := by omega
    have n1 : (n : Int) < 1152921504606846976 := by omega
    have el : ∀ j, j < 1 → True := fun _ _ => trivial
    have eL : V2.cell? ⟨c, 72, none⟩ = some (.int .i64 (n : Int)) := HashAt.len (RowAt.carry H0.out HT.out.2.2.2.1)
    go_upto_region 9 with (fail)
    clear eL el
    go_wp2
    go_loopw [34] (fun i wr => ∃ q : Nat, q ≤ 8 ∧ i = .int .i64 q ∧ SAt w.heap.size b1 b2 w s1 (fun j => if 56 ≤ j ∧ j < 56 + q then lenB n (j - 56) else pz j) wr) (fun i _ => 8 - (intOf i).toNat)
    case atStart => exact ⟨0, by omega, rfl, HT.out.congr fun j _ => by rw [if_neg (by omega)]⟩
    case round =>
      clear HT
      obtain ⟨q, hq, rfl, hT⟩ := hrel
      have HT := hideit hT
      by_cases hlt : q < 8
      · have eb := hT.2.1.1 (56 + q) (by omega)
        have gb := hT.2.1.2.1 (56 + q) (by omega)
        clear hT
        have q0 : (0 : Int) ≤ (q : Int) := by omega
        have q1 : (q : Int) < 8 := by omega
        go_wp2
        rw [lenB_fact]
        refine ⟨⟨q + 1, by omega, by go_num, (HT.out.setB (56 + q) (lenB n q)).congr fun j _ => ?_⟩, by simp [intOf]; omega⟩
        by_cases e : j = 56 + q
        · subst e; rw [if_pos rfl, if_pos (by omega), show 56 + q - 56 = q by omega]
        · rw [if_neg e]
          by_cases h : 56 ≤ j ∧ j < 56 + q
          · rw [if_pos h, if_pos (by omega)]
          · rw [if_neg h, if_neg (by omega)]
      · obtain rfl : q = 8 := by omega
        have HU := hideit (hT.congr (p' := pB) fun j hj => by
          rw [hpB.out, hF.out, hpz.out]
          show _ = fillF m n (64 * (n / 64 + 1) + j)
          have hw' := hwt.out
          unfold fillF
          have hpc : pieces n = n / 64 + 2 := by unfold pieces; omega
          rw [hpc]
          by_cases h56 : 56 ≤ j
          · rw [if_pos (by omega), if_neg (by omega), if_neg (by omega), if_neg (by omega), show 64 * (n / 64 + 1) + j - (64 * (n / 64 + 2) - 8) = j - 56 by omega]
          · rw [if_neg (by omega), if_neg (by omega), if_neg (by omega), if_pos (by omega)])
        clear hT HT
        have hbl := hideit (block_any s1 pB wr (hC.out.ext HU.out.2.2.2.1))
        go_upto_region 14 with (fail)
        refine wp_region_lit ?_
        refine wpList_load_mid rfl 95 (.tmp 3) rfl b1 0 rfl (row 8 (wv s1)) _ HU.out.1.range Tryd.underlying95 rfl (by rw [row_length]; exact info28) ?_
        refine wpList_load_mid rfl 97 (.tmp 4) rfl b2 0 rfl (row 64 (yv pB)) _ HU.out.2.1.range Tryd.underlying97 rfl (by rw [row_length]; exact info29) ?_
        simp only [Act.put, List.setIfInBounds_toArray, List.set_cons_zero, List.set_cons_succ]
        refine wpList_call rfl (by simp [go_sem]) (hbl.out.mono ?_)
        rintro e V ⟨rfl, hV⟩
        refine ⟨_, rfl, ?_⟩
        simp only [Act.put, List.setIfInBounds_toArray, List.set_cons_zero, List.set_cons_succ]
        have HV := hideit (HU.out.ext hV)
        clear hbl hV HU
        refine wpList_call rfl (by simp [go_sem]) ((digest_any (blockF s1 pB) V).mono ?_)
        rintro e V2 ⟨rfl, hV2⟩
        refine ⟨_, rfl, ?_⟩
        simp only [Act.put, List.setIfInBounds_toArray, List.set_cons_zero, List.set_cons_succ]
        have HV2 := hideit (HV.out.ext hV2)
        clear HV hV2
        have hfin : digF (blockF s1 pB) = R := by
          rw [hR.out, hpB.out, hs1.out, hF.out]
          unfold shaF
          rw [show pieces n = n / 64 + 1 + 1 by have := hwt.out; unfold pieces; omega]
          rfl
        rw [hfin]
        clear hfin
        refine wpList_store_mid rfl 74 (.tmp 2) (.tmp 50) rfl w.heap.size 0 (row 32 (yv R)).toArray rfl rfl (by rw [row_size]; exact HV2.out.2.2.1.there) (by rw [row_size]; exact info24) (row_one fun _ _ => rfl) ?_
        go_wp2
        exact bodyPost_ret (ret_row Tryd.results67 rfl (HV2.out.2.2.1.cells (g' := yv R)) Tryd.underlying74 rfl info24) rfl ⟨rfl, below_setCells _ (Nat.le_refl _) _ _ _ HV2.out.2.2.2.1⟩
  · have hlt56 : (wt : Int) < 56 := by omega
    obtain ⟨p1, hp1⟩ : ∃ p1, p1 = fun j => if j = wt then 128#8 else p0 j := ⟨_, rfl⟩
    rw [← hp1] at HT0
    replace hp1 := hideit hp1
    have HT := HT0
    clear HT0
    obtain ⟨pA, hpA⟩ : ∃ pA, pA = fun j => F (64 * (n / 64) + j) := ⟨_, rfl⟩
    replace hpA := hideit hpA
    go_upto_region 8 with (go_at_call 76; refine (hwq.out _ HT.out.2.2.2.1).mono ?_; rintro e w' ⟨rfl, hw'⟩; subst hw')
    have n0 : (0 : Int) ≤ (n : Int) := by omega
    have n1 : (n : Int) < 1152921504606846976 := by omega
    have el : ∀ j, j < 1 → True := fun _ _ => trivial
    have eL : w'.cell? ⟨c, 72, none⟩ = some (.int .i64 (n : Int)) := HashAt.len (RowAt.carry H0.out HT.out.2.2.2.1)
    go_upto_region 9 with (fail)
    clear eL el
    go_wp2
    go_loopw [34] (fun i wr => ∃ q : Nat, q ≤ 8 ∧ i = .int .i64 q ∧ SAt w.heap.size b1 b2 w s0 (fun j => if 56 ≤ j ∧ j < 56 + q then lenB n (j - 56) else p1 j) wr) (fun i _ => 8 - (intOf i).toNat)
    case atStart => exact ⟨0, by omega, rfl, HT.out.congr fun j _ => by rw [if_neg (by omega)]⟩
    case round =>
      clear HT
      obtain ⟨q, hq, rfl, hT⟩ := hrel
      have HT := hideit hT
      by_cases hlt : q < 8
      · have eb := hT.2.1.1 (56 + q) (by omega)
        have gb := hT.2.1.2.1 (56 + q) (by omega)
        clear hT
        have q0 : (0 : Int) ≤ (q : Int) := by omega
        have q1 : (q : Int) < 8 := by omega
        go_wp2
        rw [lenB_fact]
        refine ⟨⟨q + 1, by omega, by go_num, (HT.out.setB (56 + q) (lenB n q)).congr fun j _ => ?_⟩, by simp [intOf]; omega⟩
        by_cases e : j = 56 + q
        · subst e; rw [if_pos rfl, if_pos (by omega), show 56 + q - 56 = q by omega]
        · rw [if_neg e]
          by_cases h : 56 ≤ j ∧ j < 56 + q
          · rw [if_pos h, if_pos (by omega)]
          · rw [if_neg h, if_neg (by omega)]
      · obtain rfl : q = 8 := by omega
        have HU := hideit (hT.congr (p' := pA) fun j hj => by
          rw [hpA.out, hF.out]
          show _ = fillF m n (64 * (n / 64) + j)
          have hw' := hwt.out
          unfold fillF
          have hpc : pieces n = n / 64 + 1 := by unfold pieces; omega
          rw [hpc]
          by_cases h56 : 56 ≤ j
          · rw [if_pos (by omega), if_neg (by omega), if_neg (by omega), if_neg (by omega), show 64 * (n / 64) + j - (64 * (n / 64 + 1) - 8) = j - 56 by omega]
          · rw [if_neg (by omega), hp1.out]
            show (if j = wt then 128#8 else p0 j) = _
            by_cases h1 : j = wt
            · rw [if_pos h1, if_neg (by omega), if_pos (by omega)]
            · rw [if_neg h1, ← hp0.out]
              unfold pend
              by_cases h2 : 64 * (n / 64) + j < n
              · rw [if_pos h2, if_pos h2]
              · rw [if_neg h2, if_neg h2, if_neg (by omega), if_pos (by omega)])
        clear hT HT
        have hbl := hideit (block_any s0 pA wr (hC.out.ext HU.out.2.2.2.1))
        go_upto_region 14 with (fail)
        refine wp_region_lit ?_
        refine wpList_load_mid rfl 95 (.tmp 3) rfl b1 0 rfl (row 8 (wv s0)) _ HU.out.1.range Tryd.underlying95 rfl (by rw [row_length]; exact info28) ?_
        refine wpList_load_mid rfl 97 (.tmp 4) rfl b2 0 rfl (row 64 (yv pA)) _ HU.out.2.1.range Tryd.underlying97 rfl (by rw [row_length]; exact info29) ?_
        simp only [Act.put, List.setIfInBounds_toArray, List.set_cons_zero, List.set_cons_succ]
        refine wpList_call rfl (by simp [go_sem]) (hbl.out.mono ?_)
        rintro e V ⟨rfl, hV⟩
        refine ⟨_, rfl, ?_⟩
        simp only [Act.put, List.setIfInBounds_toArray, List.set_cons_zero, List.set_cons_succ]
        have HV := hideit (HU.out.ext hV)
        clear hbl hV HU
        refine wpList_call rfl (by simp [go_sem]) ((digest_any (blockF s0 pA) V).mono ?_)
        rintro e V2 ⟨rfl, hV2⟩
        refine ⟨_, rfl, ?_⟩
        simp only [Act.put, List.setIfInBounds_toArray, List.set_cons_zero, List.set_cons_succ]
        have HV2 := hideit (HV.out.ext hV2)
        clear HV hV2
        have hfin : digF (blockF s0 pA) = R := by
          rw [hR.out, hpA.out, ← hs0.out, hF.out]
          unfold shaF
          rw [show pieces n = n / 64 + 1 by have := hwt.out; unfold pieces; omega]
          show _ = digF (blockF (chain (fillF m n) (n / 64)) fun j => fillF m n (64 * (n / 64) + j))
          rw [chain_congr (m := fillF m n) (m' := m) (n / 64) fun j hj => by unfold fillF; rw [if_pos (by omega)]]
        rw [hfin]
        clear hfin
        refine wpList_store_mid rfl 74 (.tmp 2) (.tmp 50) rfl w.heap.size 0 (row 32 (yv R)).toArray rfl rfl (by rw [row_size]; exact HV2.out.2.2.1.there) (by rw [row_size]; exact info24) (row_one fun _ _ => rfl) ?_
        go_wp2
        exact bodyPost_ret (ret_row Tryd.results67 rfl (HV2.out.2.2.1.cells (g' := yv R)) Tryd.underlying74 rfl info24) rfl ⟨rfl, below_setCells _ (Nat.le_refl _) _ _ _ HV2.out.2.2.2.1⟩
end Go.Proofs.YtedgopionpdfeaaDoor
namespace Go.Proofs.YtedgopionpdfeaaDoor
def abcF (j : Nat) : BitVec 8 := BitVec.ofNat 8 ([97, 98, 99].getD j 0)
def wTab : List Nat := [1633837952, 0, 0, 0, 0, 0, 0, 0, 0, 0, 0, 0, 0, 0, 0, 24, 1633837952, 983040, 2108187653, 1610613702, 1050508152, 25426944, 316456923, 3806512014, 3357629466, 3073800610, 3854317833, 845560923, 2636160359, 3968280267, 1881225380, 3552024379, 2482346367, 996719219, 2952069057, 4043988066, 176896406, 1924104970, 2483675966, 610538786, 2672279444, 4037431130, 1042573945, 657669027, 206005234, 2215296807, 2049510749, 106709978, 4215179723, 3430291419, 3118885940, 2845390439, 2226839261, 3256115900, 344409900, 2987358873, 4015503821, 3957764664, 2682456414, 2025622859, 2755645205, 1720397816, 4004225740, 313650667]
def sTab : List (List Nat) := [[1779033703, 3144134277, 1013904242, 2773480762, 1359893119, 2600822924, 528734635, 1541459225], [1567288269, 1779033703, 3144134277, 1013904242, 4197074466, 1359893119, 2600822924, 528734635], [1516951981, 1567288269, 1779033703, 3144134277, 2026797449, 4197074466, 1359893119, 2600822924], [3368241063, 1516951981, 1567288269, 1779033703, 4180228587, 2026797449, 4197074466, 1359893119], [3578852966, 3368241063, 1516951981, 1567288269, 618661968, 4180228587, 2026797449, 4197074466], [71342698, 3578852966, 3368241063, 1516951981, 1135452741, 618661968, 4180228587, 2026797449], [725748213, 71342698, 3578852966, 3368241063, 1900175533, 1135452741, 618661968, 4180228587], [3842179968, 725748213, 71342698, 3578852966, 2603066369, 1900175533, 1135452741, 618661968], [2241887071, 3842179968, 725748213, 71342698, 207977081, 2603066369, 1900175533, 1135452741], [2382687417, 2241887071, 3842179968, 725748213, 852110732, 207977081, 2603066369, 1900175533], [2357671019, 2382687417, 2241887071, 3842179968, 482944406, 852110732, 207977081, 2603066369], [1201185780, 2357671019, 2382687417, 2241887071, 1131095016, 482944406, 852110732, 207977081], [4146054569, 1201185780, 2357671019, 2382687417, 2171590377, 1131095016, 482944406, 852110732], [2274437520, 4146054569, 1201185780, 2357671019, 509051416, 2171590377, 1131095016, 482944406], [3643992854, 2274437520, 4146054569, 1201185780, 1952073950, 509051416, 2171590377, 1131095016], [3227803614, 3643992854, 2274437520, 4146054569, 194179596, 1952073950, 509051416, 2171590377], [2969183118, 3227803614, 3643992854, 2274437520, 123276749, 194179596, 1952073950, 509051416], [567974555, 2969183118, 3227803614, 3643992854, 2150900380, 123276749, 194179596, 1952073950], [3271285201, 567974555, 2969183118, 3227803614, 2221859924, 2150900380, 123276749, 194179596], [4269243327, 3271285201, 567974555, 2969183118, 3431569761, 2221859924, 2150900380, 123276749], [3790736435, 4269243327, 3271285201, 567974555, 2959311225, 3431569761, 2221859924, 2150900380], [2647034723, 3790736435, 4269243327, 3271285201, 2329577776, 2959311225, 3431569761, 2221859924], [3261099373, 2647034723, 3790736435, 4269243327, 3777329520, 2329577776, 2959311225, 3431569761], [2812502591, 3261099373, 2647034723, 3790736435, 1240797514, 3777329520, 2329577776, 2959311225], [3319086477, 2812502591, 3261099373, 2647034723, 2856829767, 1240797514, 3777329520, 2329577776], [472655928, 3319086477, 2812502591, 3261099373, 673443729, 2856829767, 1240797514, 3777329520], [3454534525, 472655928, 3319086477, 2812502591, 339230094, 673443729, 2856829767, 1240797514], [3056518332, 3454534525, 472655928, 3319086477, 3343672598, 339230094, 673443729, 2856829767], [2010346792, 3056518332, 3454534525, 472655928, 3992961016, 3343672598, 339230094, 673443729], [909411017, 2010346792, 3056518332, 3454534525, 1628611511, 3992961016, 3343672598, 339230094], [2684750640, 909411017, 2010346792, 3056518332, 2917635127, 1628611511, 3992961016, 3343672598], [3935906338, 2684750640, 909411017, 2010346792, 17410874, 2917635127, 1628611511, 3992961016], [1941126133, 3935906338, 2684750640, 909411017, 3126399250, 17410874, 2917635127, 1628611511], [2564891911, 1941126133, 3935906338, 2684750640, 2631529974, 3126399250, 17410874, 2917635127], [4267724277, 2564891911, 1941126133, 3935906338, 1495571923, 2631529974, 3126399250, 17410874], [2846323596, 4267724277, 2564891911, 1941126133, 140458035, 1495571923, 2631529974, 3126399250], [1705037796, 2846323596, 4267724277, 2564891911, 4105175766, 140458035, 1495571923, 2631529974], [1101421745, 1705037796, 2846323596, 4267724277, 124953195, 4105175766, 140458035, 1495571923], [887035396, 1101421745, 1705037796, 2846323596, 2768741693, 124953195, 4105175766, 140458035], [1841658506, 887035396, 1101421745, 1705037796, 4034403272, 2768741693, 124953195, 4105175766], [2045405306, 1841658506, 887035396, 1101421745, 519815328, 4034403272, 2768741693, 124953195], [3597076326, 2045405306, 1841658506, 887035396, 641019235, 519815328, 4034403272, 2768741693], [3745932591, 3597076326, 2045405306, 1841658506, 2206934801, 641019235, 519815328, 4034403272], [397020670, 3745932591, 3597076326, 2045405306, 3737995029, 2206934801, 641019235, 519815328], [2638983059, 397020670, 3745932591, 3597076326, 4255271982, 3737995029, 2206934801, 641019235], [643991573, 2638983059, 397020670, 3745932591, 2819559920, 4255271982, 3737995029, 2206934801], [1923828625, 643991573, 2638983059, 397020670, 3077922209, 2819559920, 4255271982, 3737995029], [2706117808, 1923828625, 643991573, 2638983059, 3581645993, 3077922209, 2819559920, 4255271982], [1098003085, 2706117808, 1923828625, 643991573, 4274981830, 3581645993, 3077922209, 2819559920], [91585771, 1098003085, 2706117808, 1923828625, 3178315832, 4274981830, 3581645993, 3077922209], [4045142696, 91585771, 1098003085, 2706117808, 1851537676, 3178315832, 4274981830, 3581645993], [2047150241, 4045142696, 91585771, 1098003085, 1391578359, 1851537676, 3178315832, 4274981830], [2288941602, 2047150241, 4045142696, 91585771, 1227037726, 1391578359, 1851537676, 3178315832], [270520975, 2288941602, 2047150241, 4045142696, 1386118400, 1227037726, 1391578359, 1851537676], [4117770203, 270520975, 2288941602, 2047150241, 2672265155, 1386118400, 1227037726, 1391578359], [1053056219, 4117770203, 270520975, 2288941602, 3842906959, 2672265155, 1386118400, 1227037726], [952932627, 1053056219, 4117770203, 270520975, 1422599787, 3842906959, 2672265155, 1386118400], [4241590395, 952932627, 1053056219, 4117770203, 2606665836, 1422599787, 3842906959, 2672265155], [3227702383, 4241590395, 952932627, 1053056219, 2118385806, 2606665836, 1422599787, 3842906959], [4290184306, 3227702383, 4241590395, 952932627, 1837350854, 2118385806, 2606665836, 1422599787], [3064893439, 4290184306, 3227702383, 4241590395, 2988158269, 1837350854, 2118385806, 2606665836], [3093179625, 3064893439, 4290184306, 3227702383, 2518632596, 2988158269, 1837350854, 2118385806], [80891244, 3093179625, 3064893439, 4290184306, 2492278198, 2518632596, 2988158269, 1837350854], [3550093669, 80891244, 3093179625, 3064893439, 4212265488, 2492278198, 2518632596, 2988158269], [1349398616, 3550093669, 80891244, 3093179625, 1593118500, 4212265488, 2492278198, 2518632596]]
def wTf (j : Nat) : BitVec 32 := BitVec.ofNat 32 (wTab.getD j 0)
def sTf (n j : Nat) : BitVec 32 := BitVec.ofNat 32 ((sTab.getD n []).getD j 0)
theorem abc_words : ∀ t, t < 16 → w0 (fun j => fillF abcF 3 (64 * 0 + j)) t = wTf t := by decide +kernel
theorem abc_next : ∀ m, m < 48 → nextW wTf (16 + m) = wTf (16 + m) := by decide +kernel
theorem abc_rnd : ∀ n, n < 64 → ∀ j, j < 8 → rnd (kT n) (wTf n) (sTf n) j = sTf (n + 1) j := by decide +kernel
theorem abc_first : ∀ j, j < 8 → fT j = sTf 0 j := by decide +kernel
theorem abc_wK : ∀ m, m ≤ 48 → ∀ j, j < 16 + m → wK (fun j => fillF abcF 3 (64 * 0 + j)) m j = wTf j
  | 0, _, j, hj => by
    show (if j < 16 then w0 (fun j => fillF abcF 3 (64 * 0 + j)) j else 0#32) = _
    rw [if_pos (by omega)]
    exact abc_words j (by omega)
  | m + 1, hm, j, hj => by
    have ih := abc_wK m (by omega)
    show (if j = 16 + m then nextW (wK (fun j => fillF abcF 3 (64 * 0 + j)) m) (16 + m) else wK (fun j => fillF abcF 3 (64 * 0 + j)) m j) = _
    by_cases e : j = 16 + m
    · rw [if_pos e, e, ← abc_next m (by omega)]
      unfold nextW
      rw [ih _ (by omega), ih _ (by omega), ih _ (by omega), ih _ (by omega)]
    · rw [if_neg e]
      exact ih j (by omega)
theorem rnd_congr (k w : BitVec 32) (s s' : Nat → BitVec 32) (h : ∀ j, j < 8 → s j = s' j) (j : Nat) (hj : j < 8) : rnd k w s j = rnd k w s' j := by
  rcases (by omega : j = 0 ∨ j = 1 ∨ j = 2 ∨ j = 3 ∨ j = 4 ∨ j = 5 ∨ j = 6 ∨ j = 7) with rfl | rfl | rfl | rfl | rfl | rfl | rfl | rfl <;> simp only [rnd, h 0 (by omega), h 1 (by omega), h 2 (by omega), h 3 (by omega), h 4 (by omega), h 5 (by omega), h 6 (by omega), h 7 (by omega)]
theorem abc_rndK : ∀ n, n ≤ 64 → ∀ j, j < 8 → rndK (wordsW (fun j => fillF abcF 3 (64 * 0 + j))) fT n j = sTf n j
  | 0, _, j, hj => abc_first j hj
  | n + 1, hn, j, hj => by
    show rnd (kT n) (wordsW (fun j => fillF abcF 3 (64 * 0 + j)) n) (rndK (wordsW (fun j => fillF abcF 3 (64 * 0 + j))) fT n) j = _
    rw [show wordsW (fun j => fillF abcF 3 (64 * 0 + j)) n = wTf n from abc_wK 48 (by omega) n (by omega)]
    rw [rnd_congr _ _ _ (sTf n) (abc_rndK n (by omega)) j hj]
    exact abc_rnd n (by omega) j hj
theorem abc_state (j : Nat) (hj : j < 8) : chain (fillF abcF 3) (pieces 3) j = sW (fT j) (sTf 64 j) := by
  show sW (fT j) (rndK (wordsW (fun j => fillF abcF 3 (64 * 0 + j))) fT 64 j) = _
  rw [abc_rndK 64 (by omega) j hj]
theorem abc_dig (i : Nat) (hi : i < 32) : shaF abcF 3 i = (sW (fT (i / 4)) (sTf 64 (i / 4)) >>> (24 - 8 * (i % 4))).setWidth 8 := by
  unfold shaF digF
  rw [abc_state (i / 4) (by omega)]
theorem abc_0 : shaF abcF 3 0 = 186#8 := by rw [abc_dig 0 (by omega)]; decide +kernel
theorem abc_1 : shaF abcF 3 1 = 120#8 := by rw [abc_dig 1 (by omega)]; decide +kernel
theorem abc_30 : shaF abcF 3 30 = 21#8 := by rw [abc_dig 30 (by omega)]; decide +kernel
theorem abc_31 : shaF abcF 3 31 = 173#8 := by rw [abc_dig 31 (by omega)]; decide +kernel
theorem pend_zero (m : Nat → BitVec 8) : pend m 0 = fun _ => 0#8 := by
  funext j
  unfold pend
  rw [if_neg (by omega)]
theorem fillF_congr (m m' : Nat → BitVec 8) (n : Nat) (h : ∀ j, j < n → m j = m' j) : fillF m n = fillF m' n := by
  funext j
  unfold fillF
  split
  · exact h j ‹_›
  · rfl
theorem shaF_congr (m m' : Nat → BitVec 8) (n : Nat) (h : ∀ j, j < n → m j = m' j) : shaF m n = shaF m' n := by
  unfold shaF
  rw [fillF_congr m m' n h]
end Go.Proofs.YtedgopionpdfeaaDoor
