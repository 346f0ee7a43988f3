/-
  The digest of what came to a Hash, for every Hash in every world, of which nothing that was there turns. The digest of the document's example, step by step against tables. sha.Sum: the digest of any bytes, in every world that holds the constants, of which nothing that was there turns.
-/
import Derived.Test.YtfpfgbhdehbggaaGreatDoorQb1
import Derived.Test.YtfpfgbhdehbggaaGreatDoorQb5
namespace Go.Proofs.YtfpfgbhdehbggaaGreatDoor
set_option maxRecDepth 20000
open Go.RowKit Go.BigFrame
def lenB (n i : Nat) : BitVec 8 := BitVec.ofNat 8 (n * 8 / 2 ^ (56 - 8 * i))
def pieces (n : Nat) : Nat := (n + 8) / 64 + 1
def fillF (m : Nat → BitVec 8) (n j : Nat) : BitVec 8 := if j < n then m j else if j = n then 128#8 else if j < 64 * pieces n - 8 then 0#8 else lenB n (j - (64 * pieces n - 8))
def shaF (m : Nat → BitVec 8) (n : Nat) : Nat → BitVec 8 := digF (chain (fillF m n) (pieces n))
theorem lenB_fact (n i : Nat) : (n : Int) * 8 / 2 ^ (56 - 8 * i) % 256 = ((lenB n i).toNat : Int) := by
  unfold lenB
  rw [BitVec.toNat_ofNat]
  simp
theorem makes28 {o : Oper} (hg : o.guard = none) (ho : o.op = .alloc 141) : Makes Tryz.prog o 8 (wv fun _ => 0#32) := ⟨hg, fun ρ w => ⟨(row 8 (wv fun _ => 0#32)).toArray, 141, by
  unfold execOp
  rw [ho]
  simp [go_sem]
  rfl, fun j hj => by rw [List.getElem?_toArray]; exact row_get 8 _ j hj⟩⟩
theorem makes29 {o : Oper} (hg : o.guard = none) (ho : o.op = .alloc 26) : Makes Tryz.prog o 64 (yv fun _ => 0#8) := ⟨hg, fun ρ w => ⟨(row 64 (yv fun _ => 0#8)).toArray, 26, by
  unfold execOp
  rw [ho]
  simp [go_sem]
  rfl, fun j hj => by rw [List.getElem?_toArray]; exact row_get 64 _ j hj⟩⟩
def SAt (B b1 b2 : Nat) (w : World) (s : Nat → BitVec 32) (p : Nat → BitVec 8) (X : World) : Prop :=
  RowAt b1 8 (wv s) X ∧ RowAt b2 64 (yv p) X ∧ RowAt B 32 (yv fun _ => 0#8) X ∧ Ext w X ∧ w.heap.size ≤ B ∧ B < b1 ∧ B < b2 ∧ b1 ≠ b2
section
variable {B b1 b2 : Nat} {w X Y : World} {s : Nat → BitVec 32} {p : Nat → BitVec 8}
theorem SAt.ext (h : SAt B b1 b2 w s p X) (k : Ext X Y) : SAt B b1 b2 w s p Y :=
  ⟨h.1.carry k, h.2.1.carry k, h.2.2.1.carry k, Ext.trans h.2.2.2.1 k, h.2.2.2.2⟩
theorem SAt.setS (h : SAt B b1 b2 w s p X) (s' : Nat → BitVec 32) : SAt B b1 b2 w s' p (X.setCells b1 0 (row 8 (wv s'))) := by
  obtain ⟨h1, h2, h3, h4, h5, h6, h7, h8⟩ := h
  exact ⟨h1.cells, h2.cellsOther h8 _ _, h3.cellsOther (by omega) _ _, below_setCells _ (by omega) _ _ _ h4, h5, h6, h7, h8⟩
theorem SAt.setP (h : SAt B b1 b2 w s p X) (p' : Nat → BitVec 8) : SAt B b1 b2 w s p' (X.setCells b2 0 (row 64 (yv p'))) := by
  obtain ⟨h1, h2, h3, h4, h5, h6, h7, h8⟩ := h
  exact ⟨h1.cellsOther (Ne.symm h8) _ _, h2.cells, h3.cellsOther (by omega) _ _, below_setCells _ (by omega) _ _ _ h4, h5, h6, h7, h8⟩
theorem SAt.setB (h : SAt B b1 b2 w s p X) (i : Nat) (v : BitVec 8) : SAt B b1 b2 w s (fun j => if j = i then v else p j) (X.setCell ⟨b2, i, none⟩ (.int .u8 (v.toNat : Int))) := by
  obtain ⟨h1, h2, h3, h4, h5, h6, h7, h8⟩ := h
  refine ⟨h1.other _ _ (Ne.symm h8), (h2.set i _).congr fun j _ => ?_, h3.other _ _ (by show b2 ≠ B; omega), h4.setCell (by show _ ≤ b2; omega) _, h5, h6, h7, h8⟩
  simp only [yv]
  by_cases e : j = i <;> simp [e]
theorem SAt.congr (h : SAt B b1 b2 w s p X) {p' : Nat → BitVec 8} (e : ∀ j, j < 64 → p j = p' j) : SAt B b1 b2 w s p' X :=
  ⟨h.1, h.2.1.congr fun j hj => by simp only [yv, e j hj], h.2.2⟩
end
set_option maxRecDepth 20000 in
set_option maxHeartbeats 4000000 in
theorem sum_any (c n : Nat) (m : Nat → BitVec 8) (w : World) (h : HashOf c m n w) (hC : TabC w) (hN : n < 1152921504606846976) :
    Calls Tryz.prog 90 #[.pointer (some ⟨c, 0, none⟩)] w fun e w' => e = .returned (.agg (row 32 (yv (shaF m n))).toArray) ∧ Below w.heap.size w w' := by
  have hz := zero24
  have HH : HashAt c (chain m (n / 64)) (pend m n) n (w.alloc (.cells (row 32 (yv fun _ => 0#8)).toArray 22)) := RowAt.alloc h _
  have HZ := RowAt.new w 32 (yv fun _ => 0#8) 22
  have H0 := hideit h
  replace HH := hideit HH
  replace HZ := hideit HZ
  replace hC := hideit hC
  obtain ⟨F, hF⟩ : ∃ F, F = fillF m n := ⟨_, rfl⟩
  obtain ⟨R, hR⟩ : ∃ R, R = shaF m n := ⟨_, rfl⟩
  rw [← hR]
  obtain ⟨wt, hwt⟩ : ∃ wt, wt = n % 64 := ⟨_, rfl⟩
  have hwl : wt < 64 := by omega
  replace hwt := hideit hwt
  replace hF := hideit hF
  replace hR := hideit hR
  clear h
  have hwq : Hid (∀ X, Ext w X → Calls Tryz.prog 105 #[.pointer (some ⟨c, 0, none⟩)] X fun e w' => e = .returned (.int .i64 (wt : Int)) ∧ w' = X) := fun X hX => by
    have hq := waiting_any c n _ _ X (RowAt.carry H0.out hX)
    rw [← hwt.out] at hq
    exact hq
  generalize hs0 : chain m (n / 64) = s0 at *
  generalize hp0 : pend m n = p0 at *
  replace hs0 := hideit hs0
  replace hp0 := hideit hp0
  have hne := kept_ne ((w.alloc (.cells (row 32 (yv fun _ => 0#8)).toArray 22)).drew)
  go_enter Tryz.func90, Tryz.ntmps90
  go_wp2
  refine wp_region_made2s 8 8 (wv fun _ => 0#32) 64 (yv fun _ => 0#8) (wv s0) _ _ _ (by kernel_rfl) (by kernel_rfl) rfl rfl rfl (makes28 rfl rfl) (makes29 rfl rfl) ?_
  simp only [List.take_succ_cons, List.take_zero, List.drop_succ_cons, List.drop_zero]
  refine wpStrong_run 8 rfl ?_
  simp only [List.take_succ_cons, List.take_zero, List.drop_succ_cons, List.drop_zero]
  go_big_quiet_step (fail)
  go_big_quiet_step (fail)
  go_big_quiet_step (fail)
  go_big_quiet_want
  refine loadQ 141 (.tmp 12) c 0 8 (wv s0) rfl rfl (fun w' hw' => HashAt.state (RowAt.carry (RowAt.drew HH.out) hw')) Tryz.underlying141 rfl info28 ?_
  simp only [zp0, zp1, zp2, zp3]
  go_big_quiet_on
  go_big_quiet_step (fail)
  go_big_quiet_step (fail)
  go_big_quiet_step (fail)
  go_big_quiet_want
  refine loadQ 26 (.tmp 16) c 8 64 (yv p0) rfl rfl (fun w' hw' => HashAt.piece (RowAt.carry (RowAt.drew HH.out) hw')) Tryz.underlying26 rfl info29 ?_
  simp only [zp0, zp1, zp2, zp3]
  go_big_quiet_on
  refine wpQuiet_nil ?_
  refine wpStrong_nil ?_
  intro b1 b2 hb1 hb2 hb12
  simp only [zp0, zp1, zp2, zp3]
  refine ⟨writes_row rfl 141 (.tmp 3) (.tmp 13) rfl b1 8 _ _ rfl rfl info28 (fun _ _ => rfl), fun X hX HR1 HR2 => ?_⟩
  replace HR1 := hideit HR1
  replace HR2 := hideit HR2
  refine wpList_store_mid rfl 26 (.tmp 4) (.tmp 17) rfl b2 0 (row 64 (yv p0)).toArray rfl rfl (by rw [row_size]; exact HR2.out.there) (by rw [row_size]; exact info29) (row_one fun _ _ => rfl) ?_
  have HS : SAt w.heap.size b1 b2 w s0 p0 (X.setCells b2 0 (row 64 (yv p0))) := by
    have hsz : (w.alloc (.cells (row 32 (yv fun _ => 0#8)).toArray 22)).heap.size = w.heap.size + 1 := by simp
    have hE : Ext w X := Ext.trans (((Below.refl _ _).alloc (Nat.le_refl _) _).drew) hX
    have h0 : SAt w.heap.size b1 b2 w s0 (fun _ => 0#8) X := ⟨HR1.out, HR2.out, HZ.out.drew.carry hX, hE, Nat.le_refl _, by omega, by omega, hb12⟩
    exact h0.setP p0
  replace HS := hideit HS
  clear HR1 HR2 hX hne HH HZ
  generalize X.setCells b2 0 (row 64 (yv p0)) = Y at *
  simp only [Act.put]
  have w0 : (0 : Int) ≤ (wt : Int) := by omega
  have w1 : (wt : Int) < 64 := by omega
  have eb := HS.out.2.1.1 wt hwl
  have gb := HS.out.2.1.2.1 wt hwl
  go_upto_region 5 with (go_at_call 105; refine (hwq.out _ HS.out.2.2.2.1).mono ?_; rintro e w' ⟨rfl, hw'⟩; subst hw')
  have HT0 := hideit (HS.out.setB wt 128#8)
  have hYe : (w'.setCell ⟨b2, wt, none⟩ (.int .u8 ((128#8 : BitVec 8).toNat : Int))) = w'.setCell ⟨b2, wt, none⟩ (.int .u8 128) := rfl
  rw [hYe] at HT0
  clear hYe HS eb gb
  generalize w'.setCell ⟨b2, wt, none⟩ (.int .u8 128) = Z at *
  by_cases hge : 56 ≤ wt
  · have hge56 : (56 : Int) ≤ (wt : Int) := by omega
    obtain ⟨pA, hpA⟩ : ∃ pA, pA = fun j => F (64 * (n / 64) + j) := ⟨_, rfl⟩
    obtain ⟨pB, hpB⟩ : ∃ pB, pB = fun j => F (64 * (n / 64 + 1) + j) := ⟨_, rfl⟩
    obtain ⟨s1, hs1⟩ : ∃ s1, s1 = chain F (n / 64 + 1) := ⟨_, rfl⟩
    obtain ⟨pz, hpz⟩ : ∃ pz : Nat → BitVec 8, pz = fun _ => 0#8 := ⟨_, rfl⟩
    have HT1 := hideit (HT0.out.congr (p' := pA) fun j hj => by
      rw [hpA, hF.out]
      show _ = fillF m n (64 * (n / 64) + j)
      have hw' := hwt.out
      unfold fillF
      have hpc : pieces n = n / 64 + 2 := by unfold pieces; omega
      rw [hpc]
      by_cases h1 : j = wt
      · rw [if_pos h1, if_neg (by omega), if_pos (by omega)]
      · rw [if_neg h1, ← hp0.out]
        unfold pend
        by_cases h2 : 64 * (n / 64) + j < n
        · rw [if_pos h2, if_pos h2]
        · rw [if_neg h2, if_neg h2, if_neg (by omega), if_pos (by omega)])
    have hblk := block_any s0 pA
    have hs2 : blockF s0 pA = s1 := by
      rw [hs1, hpA, ← hs0.out, hF.out]
      show _ = blockF (chain (fillF m n) (n / 64)) fun j => fillF m n (64 * (n / 64) + j)
      rw [chain_congr (m := fillF m n) (m' := m) (n / 64) fun j hj => by unfold fillF; rw [if_pos (by omega)]]
    rw [hs2] at hblk
    replace hblk := hideit hblk
    replace hpA := hideit hpA
    replace hpB := hideit hpB
    replace hs1 := hideit hs1
    replace hpz := hideit hpz
    clear hs2 HT0
    go_upto_region 6 with (go_at_call 105; refine (hwq.out _ HT1.out.2.2.2.1).mono ?_; rintro e w' ⟨rfl, hw'⟩; subst hw')
    refine wp_region_lit ?_
    refine wpList_load_mid rfl 141 (.tmp 3) rfl b1 0 rfl (row 8 (wv s0)) _ HT1.out.1.range Tryz.underlying141 rfl (by rw [row_length]; exact info28) ?_
    refine wpList_load_mid rfl 26 (.tmp 4) rfl b2 0 rfl (row 64 (yv pA)) _ HT1.out.2.1.range Tryz.underlying26 rfl (by rw [row_length]; exact info29) ?_
    simp only [zp0, zp1, zp2, zp3]
    refine wpList_call rfl (by simp [go_sem]) ((hblk.out _ (hC.out.ext HT1.out.2.2.2.1)).mono ?_)
    rintro e V ⟨rfl, hV⟩
    refine ⟨_, rfl, ?_⟩
    simp only [zp0, zp1, zp2, zp3]
    have HV := hideit (HT1.out.ext hV)
    clear hblk hV HT1
    refine wpList_store_mid rfl 141 (.tmp 3) (.tmp 26) rfl b1 0 (row 8 (wv s1)).toArray rfl rfl (by rw [row_size]; exact HV.out.1.there) (by rw [row_size]; exact info28) (row_one fun _ _ => rfl) ?_
    have HV1 := hideit (HV.out.setS s1)
    clear HV
    generalize V.setCells b1 0 (row 8 (wv s1)) = V1 at *
    simp only [Act.put]
    go_upto_region 7 with (fail)
    refine wp_region_lit ?_
    have hzb := zbuild29
    rw [← hpz.out] at hzb
    refine wpList_build rfl 26 [] rfl _ (hzb _) ?_
    simp only [zp0, zp1, zp2, zp3]
    refine wpList_store_mid rfl 26 (.tmp 4) (.tmp 27) rfl b2 0 (row 64 (yv pz)).toArray rfl rfl (by rw [row_size]; exact HV1.out.2.1.there) (by rw [row_size]; exact info29) (row_one fun _ _ => rfl) ?_
    have HT := hideit (HV1.out.setP pz)
    clear HV1 hzb
    generalize V1.setCells b2 0 (row 64 (yv pz)) = V2 at *
    simp only [Act.put]
    go_upto_region 8 with (fail)
    have n0 : (0 : Int) ≤ (n : Int) := by omega
    have n1 : (n : Int) < 1152921504606846976 := by omega
    have el : ∀ j, j < 1 → True := fun _ _ => trivial
    have eL : V2.cell? ⟨c, 72, none⟩ = some (.int .i64 (n : Int)) := HashAt.len (RowAt.carry H0.out HT.out.2.2.2.1)
    go_upto_region 9 with (fail)
    clear eL el
    go_wp2
    go_loopw [34] (fun i wr => ∃ q : Nat, q ≤ 8 ∧ i = .int .i64 q ∧ SAt w.heap.size b1 b2 w s1 (fun j => if 56 ≤ j ∧ j < 56 + q then lenB n (j - 56) else pz j) wr) (fun i _ => 8 - (intOf i).toNat)
    case atStart => exact ⟨0, by omega, rfl, HT.out.congr fun j _ => by rw [if_neg (by omega)]⟩
    case round =>
      clear HT
      obtain ⟨q, hq, rfl, hT⟩ := hrel
      have HT := hideit hT
      by_cases hlt : q < 8
      · have eb := hT.2.1.1 (56 + q) (by omega)
        have gb := hT.2.1.2.1 (56 + q) (by omega)
        clear hT
        have q0 : (0 : Int) ≤ (q : Int) := by omega
        have q1 : (q : Int) < 8 := by omega
        go_wp2
        rw [lenB_fact]
        refine ⟨⟨q + 1, by omega, by go_num, (HT.out.setB (56 + q) (lenB n q)).congr fun j _ => ?_⟩, by simp [intOf]; omega⟩
        by_cases e : j = 56 + q
        · subst e; rw [if_pos rfl, if_pos (by omega), show 56 + q - 56 = q by omega]
        · rw [if_neg e]
          by_cases h : 56 ≤ j ∧ j < 56 + q
          · rw [if_pos h, if_pos (by omega)]
          · rw [if_neg h, if_neg (by omega)]
      · obtain rfl : q = 8 := by omega
        have HU := hideit (hT.congr (p' := pB) fun j hj => by
          rw [hpB.out, hF.out, hpz.out]
          show _ = fillF m n (64 * (n / 64 + 1) + j)
          have hw' := hwt.out
          unfold fillF
          have hpc : pieces n = n / 64 + 2 := by unfold pieces; omega
          rw [hpc]
          by_cases h56 : 56 ≤ j
          · rw [if_pos (by omega), if_neg (by omega), if_neg (by omega), if_neg (by omega), show 64 * (n / 64 + 1) + j - (64 * (n / 64 + 2) - 8) = j - 56 by omega]
          · rw [if_neg (by omega), if_neg (by omega), if_neg (by omega), if_pos (by omega)])
        clear hT HT
        have hbl := hideit (block_any s1 pB wr (hC.out.ext HU.out.2.2.2.1))
        go_upto_region 14 with (fail)
        refine wp_region_lit ?_
        refine wpList_load_mid rfl 141 (.tmp 3) rfl b1 0 rfl (row 8 (wv s1)) _ HU.out.1.range Tryz.underlying141 rfl (by rw [row_length]; exact info28) ?_
        refine wpList_load_mid rfl 26 (.tmp 4) rfl b2 0 rfl (row 64 (yv pB)) _ HU.out.2.1.range Tryz.underlying26 rfl (by rw [row_length]; exact info29) ?_
        simp only [zp0, zp1, zp2, zp3]
        refine wpList_call rfl (by simp [go_sem]) (hbl.out.mono ?_)
        rintro e V ⟨rfl, hV⟩
        refine ⟨_, rfl, ?_⟩
        simp only [zp0, zp1, zp2, zp3]
        have HV := hideit (HU.out.ext hV)
        clear hbl hV HU
        refine wpList_call rfl (by simp [go_sem]) ((digest_any (blockF s1 pB) V).mono ?_)
        rintro e V2 ⟨rfl, hV2⟩
        refine ⟨_, rfl, ?_⟩
        simp only [zp0, zp1, zp2, zp3]
        have HV2 := hideit (HV.out.ext hV2)
        clear HV hV2
        have hfin : digF (blockF s1 pB) = R := by
          rw [hR.out, hpB.out, hs1.out, hF.out]
          unfold shaF
          rw [show pieces n = n / 64 + 1 + 1 by have := hwt.out; unfold pieces; omega]
          rfl
        rw [hfin]
        clear hfin
        refine wpList_store_mid rfl 22 (.tmp 2) (.tmp 50) rfl w.heap.size 0 (row 32 (yv R)).toArray rfl rfl (by rw [row_size]; exact HV2.out.2.2.1.there) (by rw [row_size]; exact info24) (row_one fun _ _ => rfl) ?_
        go_wp2
        exact bodyPost_ret (ret_row Tryz.results90 rfl (HV2.out.2.2.1.cells (g' := yv R)) Tryz.underlying22 rfl info24) rfl ⟨rfl, below_setCells _ (Nat.le_refl _) _ _ _ HV2.out.2.2.2.1⟩
  · have hlt56 : (wt : Int) < 56 := by omega
    obtain ⟨p1, hp1⟩ : ∃ p1, p1 = fun j => if j = wt then 128#8 else p0 j := ⟨_, rfl⟩
    rw [← hp1] at HT0
    replace hp1 := hideit hp1
    have HT := HT0
    clear HT0
    obtain ⟨pA, hpA⟩ : ∃ pA, pA = fun j => F (64 * (n / 64) + j) := ⟨_, rfl⟩
    replace hpA := hideit hpA
    go_upto_region 8 with (go_at_call 105; refine (hwq.out _ HT.out.2.2.2.1).mono ?_; rintro e w' ⟨rfl, hw'⟩; subst hw')
    have n0 : (0 : Int) ≤ (n : Int) := by omega
    have n1 : (n : Int) < 1152921504606846976 := by omega
    have el : ∀ j, j < 1 → True := fun _ _ => trivial
    have eL : w'.cell? ⟨c, 72, none⟩ = some (.int .i64 (n : Int)) := HashAt.len (RowAt.carry H0.out HT.out.2.2.2.1)
    go_upto_region 9 with (fail)
    clear eL el
    go_wp2
    go_loopw [34] (fun i wr => ∃ q : Nat, q ≤ 8 ∧ i = .int .i64 q ∧ SAt w.heap.size b1 b2 w s0 (fun j => if 56 ≤ j ∧ j < 56 + q then lenB n (j - 56) else p1 j) wr) (fun i _ => 8 - (intOf i).toNat)
    case atStart => exact ⟨0, by omega, rfl, HT.out.congr fun j _ => by rw [if_neg (by omega)]⟩
    case round =>
      clear HT
      obtain ⟨q, hq, rfl, hT⟩ := hrel
      have HT := hideit hT
      by_cases hlt : q < 8
      · have eb := hT.2.1.1 (56 + q) (by omega)
        have gb := hT.2.1.2.1 (56 + q) (by omega)
        clear hT
        have q0 : (0 : Int) ≤ (q : Int) := by omega
        have q1 : (q : Int) < 8 := by omega
        go_wp2
        rw [lenB_fact]
        refine ⟨⟨q + 1, by omega, by go_num, (HT.out.setB (56 + q) (lenB n q)).congr fun j _ => ?_⟩, by simp [intOf]; omega⟩
        by_cases e : j = 56 + q
        · subst e; rw [if_pos rfl, if_pos (by omega), show 56 + q - 56 = q by omega]
        · rw [if_neg e]
          by_cases h : 56 ≤ j ∧ j < 56 + q
          · rw [if_pos h, if_pos (by omega)]
          · rw [if_neg h, if_neg (by omega)]
      · obtain rfl : q = 8 := by omega
        have HU := hideit (hT.congr (p' := pA) fun j hj => by
          rw [hpA.out, hF.out]
          show _ = fillF m n (64 * (n / 64) + j)
          have hw' := hwt.out
          unfold fillF
          have hpc : pieces n = n / 64 + 1 := by unfold pieces; omega
          rw [hpc]
          by_cases h56 : 56 ≤ j
          · rw [if_pos (by omega), if_neg (by omega), if_neg (by omega), if_neg (by omega), show 64 * (n / 64) + j - (64 * (n / 64 + 1) - 8) = j - 56 by omega]
          · rw [if_neg (by omega), hp1.out]
            show (if j = wt then 128#8 else p0 j) = _
            by_cases h1 : j = wt
            · rw [if_pos h1, if_neg (by omega), if_pos (by omega)]
            · rw [if_neg h1, ← hp0.out]
              unfold pend
              by_cases h2 : 64 * (n / 64) + j < n
              · rw [if_pos h2, if_pos h2]
              · rw [if_neg h2, if_neg h2, if_neg (by omega), if_pos (by omega)])
        clear hT HT
        have hbl := hideit (block_any s0 pA wr (hC.out.ext HU.out.2.2.2.1))
        go_upto_region 14 with (fail)
        refine wp_region_lit ?_
        refine wpList_load_mid rfl 141 (.tmp 3) rfl b1 0 rfl (row 8 (wv s0)) _ HU.out.1.range Tryz.underlying141 rfl (by rw [row_length]; exact info28) ?_
        refine wpList_load_mid rfl 26 (.tmp 4) rfl b2 0 rfl (row 64 (yv pA)) _ HU.out.2.1.range Tryz.underlying26 rfl (by rw [row_length]; exact info29) ?_
        simp only [zp0, zp1, zp2, zp3]
        refine wpList_call rfl (by simp [go_sem]) (hbl.out.mono ?_)
        rintro e V ⟨rfl, hV⟩
        refine ⟨_, rfl, ?_⟩
        simp only [zp0, zp1, zp2, zp3]
        have HV := hideit (HU.out.ext hV)
        clear hbl hV HU
        refine wpList_call rfl (by simp [go_sem]) ((digest_any (blockF s0 pA) V).mono ?_)
        rintro e V2 ⟨rfl, hV2⟩
        refine ⟨_, rfl, ?_⟩
        simp only [zp0, zp1, zp2, zp3]
        have HV2 := hideit (HV.out.ext hV2)
        clear HV hV2
        have hfin : digF (blockF s0 pA) = R := by
          rw [hR.out, hpA.out, ← hs0.out, hF.out]
          unfold shaF
          rw [show pieces n = n / 64 + 1 by have := hwt.out; unfold pieces; omega]
          show _ = digF (blockF (chain (fillF m n) (n / 64)) fun j => fillF m n (64 * (n / 64) + j))
          rw [chain_congr (m := fillF m n) (m' := m) (n / 64) fun j hj => by unfold fillF; rw [if_pos (by omega)]]
        rw [hfin]
        clear hfin
        refine wpList_store_mid rfl 22 (.tmp 2) (.tmp 50) rfl w.heap.size 0 (row 32 (yv R)).toArray rfl rfl (by rw [row_size]; exact HV2.out.2.2.1.there) (by rw [row_size]; exact info24) (row_one fun _ _ => rfl) ?_
        go_wp2
        exact bodyPost_ret (ret_row Tryz.results90 rfl (HV2.out.2.2.1.cells (g' := yv R)) Tryz.underlying22 rfl info24) rfl ⟨rfl, below_setCells _ (Nat.le_refl _) _ _ _ HV2.out.2.2.2.1⟩
end Go.Proofs.YtfpfgbhdehbggaaGreatDoor
namespace Go.Proofs.YtfpfgbhdehbggaaGreatDoor
set_option maxRecDepth 20000
theorem rnd_congr (k w : BitVec 32) (s s' : Nat → BitVec 32) (h : ∀ j, j < 8 → s j = s' j) (j : Nat) (hj : j < 8) : rnd k w s j = rnd k w s' j := by
  rcases (by omega : j = 0 ∨ j = 1 ∨ j = 2 ∨ j = 3 ∨ j = 4 ∨ j = 5 ∨ j = 6 ∨ j = 7) with rfl | rfl | rfl | rfl | rfl | rfl | rfl | rfl <;> simp only [rnd, h 0 (by omega), h 1 (by omega), h 2 (by omega), h 3 (by omega), h 4 (by omega), h 5 (by omega), h 6 (by omega), h 7 (by omega)]
theorem pend_zero (m : Nat → BitVec 8) : pend m 0 = fun _ => 0#8 := by
  funext j
  unfold pend
  rw [if_neg (by omega)]
theorem fillF_congr (m m' : Nat → BitVec 8) (n : Nat) (h : ∀ j, j < n → m j = m' j) : fillF m n = fillF m' n := by
  funext j
  unfold fillF
  split
  · exact h j ‹_›
  · rfl
theorem shaF_congr (m m' : Nat → BitVec 8) (n : Nat) (h : ∀ j, j < n → m j = m' j) : shaF m n = shaF m' n := by
  unfold shaF
  rw [fillF_congr m m' n h]
end Go.Proofs.YtfpfgbhdehbggaaGreatDoor
namespace Go.Proofs.YtfpfgbhdehbggaaGreatDoor
set_option maxRecDepth 20000
open Go.RowKit Go.BigFrame
set_option maxHeartbeats 400000 in
theorem write_none (c : Nat) (w : World) : Calls Tryz.prog 89 #[.pointer (some ⟨c, 0, none⟩), .slice none 0 0] w fun e w' => e = .returned (.tuple #[]) ∧ w' = w := by
  go_enter Tryz.func89, Tryz.ntmps89
  go_wp2
  go_loopw [1] (fun v wr => v = .slice none 0 0 ∧ wr = w) (fun _ _ => 0)
  case atStart => exact ⟨rfl, rfl⟩
  case round =>
    obtain ⟨rfl, rfl⟩ := hrel
    go_wp2
    exact bodyPost_end (v := .tuple #[]) (by simp [results, Tryz.results89]) rfl ⟨rfl, rfl⟩
set_option maxRecDepth 20000 in
set_option maxHeartbeats 1000000 in
theorem shasum_any (l cap : Nat) (b : Nat → BitVec 8) (a : Addr) (w : World) (hb : LieAt a l (yv b) w) (hcap : l ≤ cap) (hl : l < 1152921504606846976) (hC : TabC w) :
    Calls Tryz.prog 102 #[.slice (some a) l cap] w fun e w' => e = .returned (.agg (row 32 (yv (shaF b l))).toArray) ∧ Below w.heap.size w w' := by
  have hz := zero24
  have HR0 := hideit (RowAt.new w 32 (yv fun _ => 0#8) 22)
  have HE0 : Ext w (w.alloc (.cells (row 32 (yv fun _ => 0#8)).toArray 22)) := (Below.refl _ _).alloc (Nat.le_refl _) _
  replace HE0 := hideit HE0
  replace hC := hideit hC
  replace hb := hideit hb
  obtain ⟨R, hR⟩ : ∃ R, R = shaF b l := ⟨_, rfl⟩
  rw [← hR]
  replace hR := hideit hR
  go_enter Tryz.func102, Tryz.ntmps102
  go_upto_region 2 with (go_at_call 103; refine (new_any _).mono ?_; rintro e w2 ⟨c, hc, rfl, hH, hE⟩; have HH := hideit hH; have HE := hideit (Ext.trans HE0.out hE); have HR1 := hideit (HR0.out.carry hE); clear hH hE HR0 HE0)
  have hsz : w.heap.size + 1 ≤ c := by simpa using hc
  have hc0 : c ≠ 0 := by omega
  have HO : HashOf c (fun _ => 0#8) 0 w2 := by
    unfold HashOf
    rw [pend_zero]
    exact HH.out
  replace HO := hideit HO
  clear HH hc
  have hwq := write_any c 0 l cap (fun _ => 0#8) b a w2 HO.out (hC.out.ext HE.out) (hb.out.carry HE.out) hcap (by have := hb.out.2; omega) hc0 (by omega)
  replace hwq := hideit hwq
  go_upto_region 3 with (go_at_call 89; refine hwq.out.mono ?_; rintro e w3 ⟨rfl, h3, hB3⟩; have H3' := hideit h3; clear h3)
  have H3 : HashOf c b l w3 := by
    have h4 := H3'.out
    rw [Nat.zero_add] at h4
    exact h4.congr fun j _ => by unfold catF; rw [if_neg (by omega), Nat.sub_zero]
  replace H3 := hideit H3
  clear H3' hwq
  have HE3 := hideit (Ext.but HE.out hB3 (by omega))
  have HR3 := hideit (HR1.out.but hB3 (by omega))
  clear HR1 HE hB3 HO
  have hs := sum_any c l b w3 H3.out (hC.out.ext HE3.out) hl
  rw [← hR.out] at hs
  replace hs := hideit hs
  clear H3 hR
  go_upto_region 3 with (fail)
  refine wp_region_lit ?_
  refine wpList_run rfl (.pointer (some ⟨c, 0, none⟩)) (by simp [go_sem]) ?_
  simp only [zp0, zp1, zp2, zp3]
  refine wpList_call rfl (by simp [go_sem]) (hs.out.mono ?_)
  rintro e w4 ⟨rfl, hw4⟩
  refine ⟨_, rfl, ?_⟩
  simp only [zp0, zp1, zp2, zp3]
  have HR4 := hideit (HR3.out.carry hw4)
  have HE4 := hideit (Ext.trans HE3.out hw4)
  clear hs hw4 HR3 HE3
  refine wpList_store_mid rfl 22 (.tmp 2) (.tmp 9) rfl _ 0 (row 32 (yv R)).toArray rfl rfl (by rw [row_size]; exact HR4.out.there) (by rw [row_size]; exact info24) (row_one fun _ _ => rfl) ?_
  go_wp2
  exact bodyPost_ret (ret_row Tryz.results102 rfl (HR4.out.cells (g' := yv R)) Tryz.underlying22 rfl info24) rfl ⟨rfl, below_setCells _ (Nat.le_refl _) _ _ _ HE4.out⟩
end Go.Proofs.YtfpfgbhdehbggaaGreatDoor
