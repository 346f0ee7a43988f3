/-
  A disk's Crash. What math/bits.Mul answers of one and a number; slices.Repeat of one slice.
-/
import Derived.Test.YtiakkclabgelfaaDoorQc1
import Derived.Test.YtiakkclabgelfaaDoorQc30
import Derived.Laws.MakeOwn
namespace Go.Proofs.YtiakkclabgelfaaDoor
set_option maxRecDepth 20000
open Go.RowKit Go.BigFrame Go.Maps
theorem RowAt.shrink {b n m : Nat} {g : Nat → Value} {w : World} (h : RowAt b n g w) (hm : m ≤ n) : RowAt b m g w := ⟨fun j hj => h.1 j (by omega), fun j hj => h.2.1 j (by omega), h.2.2⟩
section
variable {F : Nat → Prop} {p : Nat} {s : DSt} {C : Nat} {M : DM} {W X : World} {kb kw : Nat → Int}
def crF (s : DSt) (kb kw : Nat → Int) : Nat → Nat → Nat → BitVec 8
  | 0 => s.S
  | i + 1 => if 0 < kw i then upN (crF s kb kw i) (kb i).toNat (s.uc (kb i).toNat ((kw i).toNat - 1)) else crF s kb kw i
def crS (s : DSt) (kb kw : Nat → Int) (k : Nat) : DSt := { s with S := crF s kb kw k, kc := fun _ => 0, pw := -1 }
theorem crF_none : ∀ (i n : Nat), (∀ j, j < i → inN s.N (kb j) = true) → mK M kb kw i (n : Int) = none → crF s kb kw i n = s.S n
  | 0, _, _, _ => rfl
  | i + 1, n, hv, hm => by
    have hm' : mset (mK M kb kw i) (kb i) (some (cutV (lsV M (kb i).toNat) (kw i).toNat)) (n : Int) = none := hm
    have hne : (n : Int) ≠ kb i := fun e => by
      rw [e, mset_same] at hm'
      cases hm'
    rw [mset_other _ hne] at hm'
    obtain ⟨n', hk, _⟩ := inN_spec (hv i (by omega))
    have ih := crF_none i n (fun j hj => hv j (by omega)) hm'
    show (if 0 < kw i then upN (crF s kb kw i) (kb i).toNat (s.uc (kb i).toNat ((kw i).toNat - 1)) else crF s kb kw i) n = s.S n
    by_cases hp : 0 < kw i
    · rw [if_pos hp, upN_other _ (fun e => hne (by rw [hk, Int.toNat_natCast] at e; rw [e, hk]))]
      exact ih
    · rw [if_neg hp]
      exact ih
theorem crF_some : ∀ (i n : Nat) (v : Value), okK s M kb kw i → mK M kb kw i (n : Int) = some v → ∃ q : Nat, v = cutV (lsV M n) q ∧ q ≤ s.kc n ∧ crF s kb kw i n = if 0 < q then s.uc n (q - 1) else s.S n
  | 0, _, _, _, hm => by cases hm
  | i + 1, n, v, hv, hm => by
    have hm' : mset (mK M kb kw i) (kb i) (some (cutV (lsV M (kb i).toNat) (kw i).toNat)) (n : Int) = some v := hm
    obtain ⟨h1, h2, h3, h4⟩ := hv i (by omega)
    obtain ⟨n', hk, _⟩ := inN_spec h2
    show ∃ q : Nat, v = cutV (lsV M n) q ∧ q ≤ s.kc n ∧ (if 0 < kw i then upN (crF s kb kw i) (kb i).toNat (s.uc (kb i).toNat ((kw i).toNat - 1)) else crF s kb kw i) n = if 0 < q then s.uc n (q - 1) else s.S n
    by_cases e : (n : Int) = kb i
    · rw [e, mset_same] at hm'
      injection hm' with hm'
      have hn : (kb i).toNat = n := by rw [← e, Int.toNat_natCast]
      rw [hn] at hm' h4 ⊢
      refine ⟨(kw i).toNat, hm'.symm, by omega, ?_⟩
      by_cases hp : 0 < kw i
      · rw [if_pos hp, if_pos (by omega), upN_same]
      · rw [if_neg hp, if_neg (by omega)]
        exact crF_none (M := M) i n (fun j hj => (hv j (by omega)).2.1) (by rw [e]; exact h1)
    · rw [mset_other _ e] at hm'
      obtain ⟨q, a1, a2, a3⟩ := crF_some i n v (fun j hj => hv j (by omega)) hm'
      refine ⟨q, a1, a2, ?_⟩
      by_cases hp : 0 < kw i
      · rw [if_pos hp, upN_other _ (fun e2 => e (by rw [hk, Int.toNat_natCast] at e2; rw [e2, hk]))]
        exact a3
      · rw [if_neg hp]
        exact a3
structure RcM (F : Nat → Prop) (p : Nat) (s : DSt) (C : Nat) (M : DM) (W : World) (b c : Nat) (km : Int → Option Value) (r : Nat) (g : Nat → Nat → BitVec 8) (T : Nat → Nat → BitVec 8) (sv : Nat → Value) (left : Int → Bool) (cnt : Nat) (X : World) : Prop where
  dk : DkM F p { s with S := T } C { M with sv := sv } X
  rg : RangeAt Tryd.prog 3 b r c km left cnt X
  kp : Keeps F W X
  rn : W.heap.size ≤ r
  tS : ∀ i, i < s.N → T i = if left i then s.S i else g i
theorem RcM.start {w1 : World} {b c cnt : Nat} {km : Int → Option Value} {g : Nat → Nat → BitVec 8} (h : DkM F p s C M W) (hR : RangeAt Tryd.prog 3 b W.heap.size c km (fun x => (km x).isSome) cnt w1) (hg : W.grownBy w1 none) (hgg : ∀ i : Nat, i < s.N → km i = none → s.S i = g i) : RcM F p s C M W b c km W.heap.size g s.S M.sv (fun x => (km x).isSome) cnt w1 := by
  have hE : Ext W w1 := ⟨hg.os, hg.tape, hg.output, hg.size, fun i hi => hg.block i hi (by simp)⟩
  refine ⟨h.ext hE, hR, Keeps.of_ext hE, Nat.le_refl _, fun i hi => ?_⟩
  cases hm : km i with
  | none => rw [if_neg (by simp)]; exact hgg i hi hm
  | some v => rw [if_pos (by simp)]
theorem RcM.nexts {b c r cnt : Nat} {km : Int → Option Value} {g T : Nat → Nat → BitVec 8} {sv : Nat → Value} {left : Int → Bool} {Y : World} (h : RcM F p s C M W b c km r g T sv left cnt X) (hg : X.grownBy Y (some r)) (hd : ∀ i, F i → i < W.heap.size) : DkM F p { s with S := T } C { M with sv := sv } Y ∧ Keeps F W Y := by
  have hne : ∀ i, F i → ¬ i = r := fun i hi e => by have := hd i hi; have := h.rn; omega
  exact ⟨h.dk.keep (G := fun i => i = r) (Keeps.of_grown hg fun b hb => .inl (by injection hb with hb; exact hb.symm)) hne fun i hi => by subst hi; exact range_notB h.rg, h.kp.trans (F' := fun i => i = r) (Keeps.of_grown hg fun b hb => .inl (by injection hb with hb; exact hb.symm)) fun i hi => .inr (by have := h.rn; omega)⟩
set_option maxRecDepth 20000 in
set_option maxHeartbeats 8000000 in
theorem dcrash (h : DkM F p s C M W) (kv : Value) (k : Nat) (hk : KL kv k kb kw W) (hok : ∀ i, i < k → okI (kb i)) (hk9 : k ≤ 140737488355328) (hyes : okK s M kb kw k) (hC : C ≤ 4398046511104) :
    Calls Tryd.prog 20 #[.pointer (some ⟨p, 0, none⟩), kv] W fun e w' => e = .returned (.int .i64 0) ∧ ∃ M', DkM F p (crS s kb kw k) C M' w' ∧ Keeps F W w' := by
  have kl := hideit (dlasting h kv k kb kw hk hok hk9)
  obtain ⟨ko, kcap, rfl⟩ := hk.form
  have hn4 := h.n4
  replace hyes := hideit hyes
  have hFW := hideit h.lt
  replace h := hideit h
  clear hk hok
  go_enter Tryd.func20, Tryd.ntmps20
  go_upto_region 3 with (fail)
  refine wp_region_lit ?_
  refine wpList_run rfl (.pointer (some ⟨p, 0, none⟩)) (by simp [go_sem]) ?_
  simp only [zp0, zp1, zp2, zp3]
  refine wpList_run rfl (.slice ko k kcap) (by simp [go_sem]) ?_
  simp only [zp0, zp1, zp2, zp3]
  refine wpList_call rfl (by simp [go_sem]) ((kl.out).mono ?_)
  rintro e w1 ⟨qv, z, rfl, hX1, hcase⟩
  refine ⟨_, rfl, ?_⟩
  simp only [zp0, zp1, zp2, zp3]
  obtain ⟨_, rfl, rfl, hm1⟩ := hcase.resolve_right fun hh => hh.1 hyes.out
  clear kl hcase
  refine wpList_run rfl (.tuple #[.map (some W.heap.size), .int .i64 0]) (by simp [go_sem]) ?_
  simp only [zp0, zp1, zp2, zp3]
  refine wpList_run rfl (.map (some W.heap.size)) (by simp [go_sem]) ?_
  simp only [zp0, zp1, zp2, zp3]
  refine wpList_run rfl (.int .i64 0) (by simp [go_sem]) ?_
  simp only [zp0, zp1, zp2, zp3]
  refine wpList_run rfl (.map (some W.heap.size)) (by simp [go_sem]) ?_
  simp only [zp0, zp1, zp2, zp3]
  refine wpList_run rfl (.int .i64 0) (by simp [go_sem]) ?_
  simp only [zp0, zp1, zp2, zp3]
  obtain ⟨w2, cnt0, hr2, hR2, hg2, hs2⟩ := hm1.range (t := 62) Tryd.underlying3 Tryd.underlying62
  have h1 := hideit (h.out.ext hX1)
  have hS := hideit (RcM.start (g := crF s kb kw k) h1.out hR2 hg2 fun i hi hm => (crF_none (M := M) k i (fun j hj => (hyes.out j hj).2.1) hm).symm)
  have hWs : W.heap.size < w1.heap.size := hm1.lt
  replace hX1 := hideit hX1
  clear hm1 hR2 hg2 hs2
  go_upto_region 6 with (fail)
  refine wp_region_lit ?_
  refine wpList_run rfl (.map (some W.heap.size)) (by simp [go_sem]) ?_
  simp only [zp0, zp1, zp2, zp3]
  refine wpList_to rfl (.pointer (some ⟨w1.heap.size, 0, none⟩)) w2 (exec_range (.tmp 20) rfl rfl hr2) ?_
  simp only [zp0, zp1, zp2, zp3]
  clear hr2
  go_wp2
  go_loopw [7] (fun _ X => ∃ T sv left cnt, RcM F p s C M w1 W.heap.size k (mK M kb kw k) w1.heap.size (crF s kb kw k) T sv left cnt X) (fun _ X => X.rangeLeft W.heap.size w1.heap.size)
  case atStart => exact ⟨_, _, _, _, hS.out⟩
  case round =>
    obtain ⟨T, sv, left, cnt, hI⟩ := hrel
    rcases hI.rg.next Tryd.underlying3 0 with ⟨hdone, hrn⟩ | ⟨x, v, w2, cnt', hx, hlx, hmx, hrn, hR2, hcl, hg2, hs2, hen⟩
    · have hfin := hI.dk.congrS (crF s kb kw k) fun i hi => (hI.tS i hi).trans (if_neg (by rw [hdone _ (h.out.ok i hi)]; simp))
      have hkp := hideit hI.kp
      obtain ⟨w3, hr3, hm3, hg3, hs3⟩ := hfin.mp.wipe (t := 62) Tryd.underlying62 0
      have ec3 := hfin.c1
      have h3 := (hfin.turnM (C' := 0) hg3 (fun _ => none) (fun _ => 0) hm3 (fun x v hx hv => by cases hv) (fun n' hn' => .inl ⟨rfl, rfl⟩) (fun n' hn' => Nat.le_refl _) (map_notB hm3)).mono (C' := C) (Nat.zero_le _)
      have hk3 := (hkp.out.trans (F := F) (but_keeps hg3 hfin.fm) fun i hi => .inl hi)
      have z3 := h3.z2
      have e3 := h3.c2
      obtain ⟨h4, hk4⟩ := h3.setP (-1) (by decide)
      replace h4 := hideit h4
      have hk5 : Hid (Keeps F W (w3.setCell ⟨p, 2, none⟩ (.int .i64 (-1)))) := ((Keeps.of_ext hX1.out).trans (F := F) hk3 fun i hi => .inl hi).trans (F := F) hk4 fun i hi => .inl hi
      clear h3 hm3 hg3 hs3 hkp hfin hI hS hk3 hk4
      go_upto_region 7 with (fail)
      refine wp_region_lit ?_
      refine wpList_to rfl (.tuple #[.bool false]) wr (exec_next (.tmp 21) rfl rfl hrn) ?_
      simp only [zp0, zp1, zp2, zp3]
      go_upto_region 11 with (fail)
      refine wp_region_lit ?_
      refine wpList_run rfl (.pointer (some ⟨p, 0, none⟩)) (by simp [go_sem]) ?_
      simp only [zp0, zp1, zp2, zp3]
      refine wpList_run rfl (.pointer (some ⟨p, 0, none⟩)) (by simp [go_sem]) ?_
      simp only [zp0, zp1, zp2, zp3]
      refine wpList_run rfl (.pointer (some ⟨p, 1, none⟩)) (by simp [go_sem]) ?_
      simp only [zp0, zp1, zp2, zp3]
      refine wpList_run rfl (.map (some M.mb)) (by simp [go_sem, ec3]) ?_
      simp only [zp0, zp1, zp2, zp3]
      refine wpList_to rfl (.tuple #[]) w3 (exec_clear (.tmp 41) rfl rfl hr3) ?_
      simp only [Act.put]
      clear hr3 ec3 hrn hdone
      go_wp2
      go_ret
      exact ⟨rfl, ⟨_, h4.out⟩, hk5.out⟩
    · obtain ⟨n, rfl, hn⟩ : ∃ n : Nat, x = (n : Int) ∧ n < s.N := by
        by_cases hin : inN s.N x = true
        · exact inN_spec hin
        · exfalso
          have key : ∀ i, okK s M kb kw i → mK M kb kw i x = none := fun i => by
            induction i with
            | zero => intro _; rfl
            | succ i ih =>
              intro hv
              show mset (mK M kb kw i) (kb i) _ x = none
              rw [mset_other _ (fun e => hin (by rw [e]; exact (hv i (by omega)).2.1))]
              exact ih fun j hj => hv j (by omega)
          rw [key k hyes.out] at hmx
          cases hmx
      obtain ⟨hd2, hk2⟩ := hI.nexts hg2 h1.out.lt
      obtain ⟨q, hvq, hqk, hcr⟩ := crF_some k n v hyes.out hmx
      obtain ⟨lo, lc, hls, hlo, hkc9, hlc9⟩ := h.out.lsForm hn
      have hv2 : v = .slice lo q lc := by rw [hvq, hls]; rfl
      subst hv2
      have hkC := h.out.kcC n hn
      have i0 : (0 : Int) ≤ (n : Int) := by omega
      have i1 : (n : Int) < (s.N : Int) := by omega
      by_cases hq0 : 0 < q
      · have hO := hd2.ls hn
        rw [show lsV { M with sv := sv } n = .slice lo (s.kc n) lc from hls] at hO
        obtain ⟨rb, rcap, hrv, -, hrc, -, hrow⟩ := hO.lies (show 0 < s.kc n by omega)
        injection hrv with e1 e2 e3
        subst e1
        have hrow2 : RowAt rb q (M.us n) w2 := RowAt.shrink hrow hqk
        have hcw := hd2.writes n (q - 1) hn (by show q - 1 < s.kc n; omega)
        obtain ⟨b, cap, hv, hcap, hlie, hisb⟩ := hcw
        have hv' : M.us n (q - 1) = .slice (some ⟨b, 0, none⟩) 512 cap := hv
        have hD : Ext w2 w2.drew := (Ext.refl w2).draw
        have kla := hideit (dlast q lc rb (M.us n) w2.drew hq0 (by omega) (hrow2.carry hD) _ _ _ hv')
        have hcb : CB (.slice (some ⟨b, 0, none⟩) 512 cap) (s.uc n (q - 1)) w2 := ⟨b, cap, rfl, hcap, hlie, hisb⟩
        have hd3 := hd2.ext hD
        obtain ⟨hd4, hk4⟩ := hd3.setS n hn _ _ (hcb.ext hD)
        have hR3 : RangeAt Tryd.prog 3 W.heap.size w1.heap.size k (mK M kb kw k) (fun y => left y && !decide (y = (n : Int))) cnt' w2.drew := hR2.kept (row := none) ⟨rfl, rfl, rfl, Nat.le_refl _, fun _ _ _ => rfl⟩ (by simp) (by simp)
        have hsb := h.out.lt _ h.out.fs
        have hR4 := hR3.kept (but_setCell w2.drew M.sb n (.slice (some ⟨b, 0, none⟩) 512 cap)) (by simp; omega) (by simp; omega)
        have hI4 : Hid (RcM F p s C M w1 W.heap.size k (mK M kb kw k) w1.heap.size (crF s kb kw k) (upN T n (s.uc n (q - 1))) (upN sv n (.slice (some ⟨b, 0, none⟩) 512 cap)) (fun y => left y && !decide (y = (n : Int))) cnt' (w2.drew.setCell ⟨M.sb, n, none⟩ (.slice (some ⟨b, 0, none⟩) 512 cap))) := by
          refine ⟨hd4, hR4, (hk2.ext hD).trans (F := F) hk4 fun i hi => .inl hi, hI.rn, fun i hi => ?_⟩
          by_cases e : i = n
          · subst e
            rw [upN_same, if_neg (by simp), hcr, if_pos hq0]
          · rw [upN_other _ e, hI.tS i hi]
            have : decide ((i : Int) = (n : Int)) = false := decide_eq_false fun e2 => e (by omega)
            simp only [this, Bool.not_false, Bool.and_true]
        have e4 := hd3.sure.1 n hn
        have z4 := hd3.sure.2.1 n hn
        have hst3 := hd3.st
        have hme := hideit hR4.left_eq
        have hme0 := hideit hI.rg.left_eq
        replace hcl := hideit hcl
        have q1 : (0 : Int) < (q : Int) := by omega
        clear hI hd2 hk2 hO hrow hcb hd3 hd4 hk4 hR3 hR4 hR2 hg2 hs2 hlx hmx hv hv' hlie hisb hS hcr hvq hrow2 hls
        go_upto_region 7 with (fail)
        refine wp_region_lit ?_
        refine wpList_to rfl (.tuple #[.bool true, .int .i64 (n : Int), .slice (some ⟨rb, 0, none⟩) q lc]) w2 (exec_next (.tmp 21) rfl rfl hrn) ?_
        simp only [zp0, zp1, zp2, zp3]
        go_upto_region 8 with (fail)
        refine wp_region_lit ?_
        refine wpList_run rfl (.tuple #[.int .i64 (n : Int), .slice (some ⟨rb, 0, none⟩) q lc]) (exec_entry (.tmp 21) rfl rfl hen) ?_
        simp only [zp0, zp1, zp2, zp3]
        refine wpList_run rfl (.int .i64 (n : Int)) (by simp [go_sem]) ?_
        simp only [zp0, zp1, zp2, zp3]
        refine wpList_run rfl (.slice (some ⟨rb, 0, none⟩) q lc) (by simp [go_sem]) ?_
        simp only [zp0, zp1, zp2, zp3]
        refine wpList_run rfl (.int .i64 (n : Int)) (by simp [go_sem]) ?_
        simp only [zp0, zp1, zp2, zp3]
        refine wpList_run rfl (.slice (some ⟨rb, 0, none⟩) q lc) (by simp [go_sem]) ?_
        simp only [zp0, zp1, zp2, zp3]
        go_upto_region 10 with (fail)
        refine wp_region_lad (fun X => RowAt p 3 (dkV s.N M.sb M.cp M.mb s.pw) X) [(false, 0), (false, 1), (false, 2), (false, 3), (false, 4), (false, 5), (false, 7), (true, 6), (true, 8)] (by kernel_rfl) (by kernel_rfl) (by decide +kernel) (by decide +kernel) (by decide +kernel) (by decide +kernel) hst3 ?_
        refine wpX_f _ (.pointer (some ⟨p, 0, none⟩)) rfl rfl (fun X _ => by simp [go_sem]) ?_
        simp only [List.getElem_toArray, List.getElem_cons_zero, Act.put, List.setIfInBounds_toArray, List.set_cons_zero, List.set_cons_succ]
        refine wpX_f _ (.pointer (some ⟨p, 0, none⟩)) rfl rfl (fun X _ => by simp [go_sem]) ?_
        simp only [zp4, zp5, zp6, zp0, zp1, zp2, zp3]
        refine wpX_f _ (.pointer (some ⟨p, 0, none⟩)) rfl rfl (fun X _ => by simp [go_sem]) ?_
        simp only [zp4, zp5, zp6, zp0, zp1, zp2, zp3]
        refine wpX_f _ (.slice (some ⟨M.sb, 0, none⟩) s.N M.cp) rfl rfl (fun X hX => by have e := hX.1 0 (by decide); rw [show dkV s.N M.sb M.cp M.mb s.pw 0 = .slice (some ⟨M.sb, 0, none⟩) s.N M.cp from rfl] at e; simp [go_sem, e]) ?_
        simp only [zp4, zp5, zp6, zp0, zp1, zp2, zp3]
        refine wpX_f _ (.int .i64 (n : Int)) rfl rfl (fun X _ => by simp [go_sem]) ?_
        simp only [zp4, zp5, zp6, zp0, zp1, zp2, zp3]
        refine wpX_f _ (.slice (some ⟨rb, 0, none⟩) q lc) rfl rfl (fun X _ => by simp [go_sem]) ?_
        simp only [zp4, zp5, zp6, zp0, zp1, zp2, zp3]
        refine wpX_f _ (.pointer (some ⟨M.sb, n, none⟩)) rfl rfl (fun X _ => by simp [go_sem, i1]) ?_
        simp only [zp4, zp5, zp6, zp0, zp1, zp2, zp3]
        refine wpX_call _ rfl rfl (by simp [go_sem]) (kla.out.mono ?_)
        rintro e w3 ⟨rfl, hw3⟩
        rw [hw3]
        refine ⟨_, rfl, fun X => RowAt p 3 (dkV s.N M.sb M.cp M.mb s.pw) X, fun X hX => hX, hst3, ?_⟩
        simp only [zp4, zp5, zp6, zp0, zp1, zp2, zp3]
        refine wpX_st _ (w2.drew.setCell ⟨M.sb, n, none⟩ (.slice (some ⟨b, 0, none⟩) 512 cap)) rfl rfl (by simp [go_sem, e4, z4]) (fun X => RowAt p 3 (dkV s.N M.sb M.cp M.mb s.pw) X) (fun X hX => hX) hI4.out.dk.st ?_
        simp only [List.getElem_toArray, List.getElem_cons_zero, List.getElem_cons_succ, Act.put]
        refine wpX_nil ?_
        clear e4 z4 hst3 hw3 kla hrn hen
        generalize w2.drew.setCell ⟨M.sb, n, none⟩ (.slice (some ⟨b, 0, none⟩) 512 cap) = w4 at *
        go_wp2
        exact ⟨⟨_, _, _, _, hI4.out⟩, by rw [hme.out, hme0.out]; exact hcl.out⟩
      · obtain rfl : q = 0 := by omega
        have hI4 : Hid (RcM F p s C M w1 W.heap.size k (mK M kb kw k) w1.heap.size (crF s kb kw k) T sv (fun y => left y && !decide (y = (n : Int))) cnt' w2) := by
          refine ⟨hd2, hR2, hk2, hI.rn, fun i hi => ?_⟩
          by_cases e : i = n
          · subst e
            rw [hI.tS i hi, if_pos hlx, if_neg (by simp), hcr, if_neg (by omega)]
          · rw [hI.tS i hi]
            have : decide ((i : Int) = (n : Int)) = false := decide_eq_false fun e2 => e (by omega)
            simp only [this, Bool.not_false, Bool.and_true]
        have hme := hideit hR2.left_eq
        have hme0 := hideit hI.rg.left_eq
        replace hcl := hideit hcl
        clear hI hd2 hk2 hR2 hg2 hs2 hlx hmx hS hcr hvq hls
        go_upto_region 7 with (fail)
        refine wp_region_lit ?_
        refine wpList_to rfl (.tuple #[.bool true, .int .i64 (n : Int), .slice lo 0 lc]) w2 (exec_next (.tmp 21) rfl rfl hrn) ?_
        simp only [zp0, zp1, zp2, zp3]
        go_upto_region 8 with (fail)
        refine wp_region_lit ?_
        refine wpList_run rfl (.tuple #[.int .i64 (n : Int), .slice lo 0 lc]) (exec_entry (.tmp 21) rfl rfl hen) ?_
        simp only [zp0, zp1, zp2, zp3]
        refine wpList_run rfl (.int .i64 (n : Int)) (by simp [go_sem]) ?_
        simp only [zp0, zp1, zp2, zp3]
        refine wpList_run rfl (.slice lo 0 lc) (by simp [go_sem]) ?_
        simp only [zp0, zp1, zp2, zp3]
        refine wpList_run rfl (.int .i64 (n : Int)) (by simp [go_sem]) ?_
        simp only [zp0, zp1, zp2, zp3]
        refine wpList_run rfl (.slice lo 0 lc) (by simp [go_sem]) ?_
        simp only [zp0, zp1, zp2, zp3]
        clear hrn hen
        go_wp2
        exact ⟨⟨_, _, _, _, hI4.out⟩, by rw [hme.out, hme0.out]; exact hcl.out⟩
end
end Go.Proofs.YtiakkclabgelfaaDoor
namespace Go.Proofs.YtiakkclabgelfaaDoor
set_option maxRecDepth 20000
open Go.RowKit Go.BigFrame Go.Maps
theorem exec_made {P : Program} {o : Oper} {a : Act} {w : World} (t e : TypeId) (x y : Operand) (ho : o.op = .makeSlice t x y) (z : Value) (size bytes n : Nat) (hu : P.underlying t = some (.slice e)) (hi : (P.info? e).map (fun i => (i.zero, i.size, i.bytes)) = some (some z, size, bytes))
    (hx : a.eval x = .int .i64 (n : Int)) (hy : a.eval y = .int .i64 (n : Int)) (hb : bytes * n ≤ 140737488355328) (hn : n ≤ 140737488355328) : (execOp a.eval o).run P w = .ok (.value (.slice (some ⟨w.heap.size, 0, none⟩) n n)) (w.alloc (.cells (madeCells z.cells (n * size)) e)) := by
  obtain ⟨ti, hi1, hi2, hi3, hi4⟩ := info_parts hi
  have h9 : ((bytes * n : Nat) : Int) ≤ 281474976710656 := by omega
  rw [Int.natCast_mul] at h9
  have hr := run_make (P := P) w t e ti z hu hi1 hi2 .i64 .i64 n n (by omega) (Int.le_refl _) (by rw [hi4]; exact h9) (by omega)
  rw [hi3] at hr
  simp only [Int.toNat_natCast] at hr
  unfold execOp
  simp only [ho, hx, hy, hr, Sem.run_bind, Sem.run_pure, Result.andThen_ok]
theorem made_at (z : Array Value) (n : Nat) (u : Value) (hz : ∀ k, k < z.size → z[k]! = u) (h0 : 0 < z.size) (j : Nat) (hj : j < n) : (madeCells z n)[j]? = some u := by
  unfold madeCells
  rw [Array.getElem?_map, Array.getElem?_range, if_pos hj]
  exact congrArg some (hz _ (Nat.mod_lt _ h0))
theorem info31 : (Tryd.prog.info? 39).map (fun i => (i.zero, i.size, i.bytes)) = some (some (.slice none 0 0), 1, 24) := by kernel_rfl
theorem info5D : (Tryd.prog.info? 5).map (fun i => (i.zero, i.size, i.bytes)) = some (some (.int .u8 0), 1, 1) := by kernel_rfl
theorem size31 : (Tryd.prog.info? 39).map (·.size) = some 1 := by kernel_rfl
theorem add0 (b i : Nat) : (⟨b, 0, none⟩ : Addr).add i = ⟨b, i, none⟩ := by unfold Addr.add; split <;> simp_all
theorem and_low (c : Nat) (h : c ≤ 4096) : bits .and .u64 (c : Int) 4294967295 = (c : Int) := by
  have := u64_and_nat c 4294967295 (by omega) (by decide)
  rw [show ((4294967295 : Nat) : Int) = 4294967295 from rfl] at this
  rw [this]
  congr 1
  rw [show 4294967295 = 2 ^ 32 - 1 from rfl, Nat.and_two_pow_sub_one_eq_mod]
  omega
theorem and_oneD : bits .and .u64 1 4294967295 = 1 := and_low 1 (by decide)
theorem and_zero : bits .and .u64 0 4294967295 = 0 := and_low 0 (by decide)
theorem mul64_one (c : Nat) (h : c ≤ 4096) (w : World) : Calls Tryd.prog 78 #[.int .u64 1, .int .u64 (c : Int)] w fun e w' => e = .returned (.tuple #[.int .u64 0, .int .u64 (c : Int)]) ∧ w' = w := by
  have a1 := and_oneD
  have a2 := and_low c h
  have a3 := and_zero
  have a4 : (c : Int) / 4294967296 = 0 := by omega
  go_enter Tryd.func78, Tryd.ntmps78
  go_wp2
  go_ret2
  exact ⟨rfl, rfl⟩
theorem mul_one (c : Nat) (h : c ≤ 4096) (w : World) : Calls Tryd.prog 55 #[.int .u64 1, .int .u64 (c : Int)] w fun e w' => e = .returned (.tuple #[.int .u64 0, .int .u64 (c : Int)]) ∧ w' = w := by
  have k := hideit (mul64_one c h w)
  go_enter Tryd.func55, Tryd.ntmps55
  go_wp2_with (go_at_call 78; refine k.out.mono ?_; rintro e w9 ⟨rfl, hw9⟩; rw [hw9]; clear hw9)
  go_ret2
  exact ⟨rfl, rfl⟩
def Is31 (b : Nat) (W : World) : Prop := ∃ cur fz, W.heap[b]? = some (.cells cur 39 fz)
theorem Is31.set {b : Nat} {W : World} (h : Is31 b W) (p : Addr) (v : Value) : Is31 b (W.setCell p v) := by
  obtain ⟨c, z, h1⟩ := h
  unfold Is31 World.setCell
  simp only [Array.getElem?_modify, h1]
  by_cases hp : p.block = b
  · rw [if_pos hp]
    exact ⟨_, _, rfl⟩
  · rw [if_neg hp]
    exact ⟨_, _, rfl⟩
theorem Is31.sets {b : Nat} : ∀ (vs : List Value) (o : Nat) (W : World) (c : Nat), Is31 b W → Is31 b (W.setCells c o vs)
  | [], _, _, _, h => h
  | v :: r, o, W, c, h => by rw [World.setCells]; exact Is31.sets r (o + 1) _ c (h.set _ v)
theorem Is31.notB {b : Nat} {W : World} (h : Is31 b W) : ¬ IsB b W := fun ⟨cur, fz, h1⟩ => by
  obtain ⟨c, z, h2⟩ := h
  rw [h1] at h2
  injection h2 with h2
  injection h2 with _ h3
  exact absurd h3 (by decide)
theorem Is31.ext {b : Nat} {W Y : World} (h : Is31 b W) (k : Ext W Y) : Is31 b Y := by
  obtain ⟨c, z, h1⟩ := h
  exact ⟨c, z, (Below.block k b (Array.getElem?_eq_some_iff.1 h1).1).trans h1⟩
theorem exec_copyR {P : Program} {o : Oper} {a : Act} {w : World} (d s : Operand) (dT sT : TypeId) (ho : o.op = .call { callee := .builtin .copy, args := #[d, s], argTypes := #[dT, sT] }) (elem : TypeId) (hu : P.underlying dT = some (.slice elem)) (hsz : (P.info? elem).map (·.size) = some 1)
    (b n : Nat) (g : Nat → Value) (hR : RowAt b n g w) (off dLen dCap : Nat) (ad : Addr) (sLen sCap : Nat) (hd : a.eval d = .slice (some ⟨b, off, none⟩) dLen dCap) (hs : a.eval s = .slice (some ad) sLen sCap)
    (m : Nat) (u : Nat → Value) (hn : m = Nat.min sLen dLen) (hsrc : ∀ j, j < m → w.cell? (ad.add j) = some (u j)) (hfit : off + m ≤ n) (h1 : ∀ j, j < m → (u j).oneCell' = true) :
    (execOp a.eval o).run P w = .ok (.value (goInt m)) (w.setCells b off (row m u)) := by
  have hrun := run_copy_cells (P := P) w dT sT o.type elem b off dLen dCap ad sLen sCap (row m u) hu hsz (by rw [row_length]; exact hn) (fun j v hv => by obtain ⟨hj, rfl⟩ := row_some hv; exact hsrc j hj)
    (fun j hj => by rw [row_length] at hj; rw [hR.1 (off + j) (by omega)]; rfl) (fun j hj => by rw [row_length] at hj; exact hR.2.1 (off + j) (by omega)) (fun v hv => by
      obtain ⟨j, hj, rfl⟩ := List.mem_map.1 hv
      exact h1 j (by simpa using hj))
  rw [row_length] at hrun
  simp [execOp, ho, resolve, invoke, builtin, hd, hs, hrun, Result.andThen]
def rpV (u : Value) (m : Nat) (j : Nat) : Value := if j < m then u else .slice none 0 0
structure RpS (w : World) (c : Nat) (u : Value) (m : Nat) (X : World) : Prop where
  ext : Ext w X
  row : RowAt w.heap.size c (rpV u m) X
  is : Is31 w.heap.size X
theorem RpS.copied {w : World} {c m q : Nat} {u : Value} {X : World} (h : RpS w c u m X) (hq : m + q ≤ c) : RpS w c u (m + q) (X.setCells w.heap.size m (Go.Proofs.YtiakkclabgelfaaDoor.row q fun _ => u)) :=
  ⟨below_setCells (w := w) w.heap.size (Nat.le_refl _) (Go.Proofs.YtiakkclabgelfaaDoor.row q fun _ => u) m _ h.ext, (h.row.part m q (fun _ => u) hq).congr fun j hj => by
    unfold rpV
    by_cases h1 : m ≤ j ∧ j < m + q
    · rw [if_pos h1, if_pos h1.2]
    · rw [if_neg h1]
      by_cases h2 : j < m
      · rw [if_pos h2, if_pos (by omega)]
      · rw [if_neg h2, if_neg (by omega)], h.is.sets _ _ _ _⟩
set_option maxRecDepth 20000 in
set_option maxHeartbeats 4000000 in
theorem repeat_one (xb xc : Nat) (u : Value) (hu1 : u.oneCell' = true) (c : Nat) (c1 : 1 ≤ c) (c2 : c ≤ 4096) (w : World) (hx : w.cell? ⟨xb, 0, none⟩ = some u) (hxb : xb < w.heap.size) :
    Calls Tryd.prog 30 #[.slice (some ⟨xb, 0, none⟩) 1 xc, .int .i64 (c : Int)] w fun e w' => e = .returned (.slice (some ⟨w.heap.size, 0, none⟩) c c) ∧ RpS w c u c w' := by
  have kmu := hideit (mul_one c c2 w)
  have c0 : ¬ (c : Int) < 0 := by omega
  have w1c : IntKind.u64.wrap (c : Int) = (c : Int) := by rw [IntKind.wrap_u64]; omega
  have w1i : IntKind.i64.wrap (c : Int) = (c : Int) := by rw [IntKind.wrap_i64]; omega
  have cmx : ¬ (9223372036854775807 : Int) < (c : Int) := by omega
  go_enter Tryd.func30, Tryd.ntmps30
  go_upto_region 6 with (go_at_call 55; refine kmu.out.mono ?_; rintro e w9 ⟨rfl, hw9⟩; rw [hw9]; clear hw9)
  clear kmu
  have hmade := fun j hj => made_at (Value.slice none 0 0).cells (c * 1) (.slice none 0 0) (fun k hk => by
    have : k = 0 := by simpa [Value.cells] using hk
    subst this
    rfl) (by decide) j hj
  have H0 : RpS w c u 0 (w.alloc (.cells (madeCells (Value.slice none 0 0).cells (c * 1)) 39)) := ⟨(Below.refl _ _).alloc (Nat.le_refl _) _, RowAt.newOf w c _ 39 _ (fun j hj => by unfold rpV; rw [if_neg (by omega)]; exact hmade j (by omega)), madeCells (Value.slice none 0 0).cells (c * 1), (0, 0), by
    show (w.heap.push (.cells (madeCells (Value.slice none 0 0).cells (c * 1)) 39))[w.heap.size]? = _
    simp⟩
  have hx1 : (w.alloc (.cells (madeCells (Value.slice none 0 0).cells (c * 1)) 39)).cell? ⟨xb, 0, none⟩ = some u := by rw [World.cell?_alloc_lt _ _ _ hxb]; exact hx
  clear hmade
  refine wp_region_lit ?_
  refine wpList_run rfl (.int .u64 (c : Int)) (by simp [go_sem]) ?_
  simp only [zp0, zp1, zp2, zp3]
  refine wpList_run rfl (.int .i64 (c : Int)) (by simp [go_sem, w1i]) ?_
  simp only [zp0, zp1, zp2, zp3]
  refine wpList_to rfl (.slice (some ⟨w.heap.size, 0, none⟩) c c) (w.alloc (.cells (madeCells (Value.slice none 0 0).cells (c * 1)) 39)) (exec_made 49 39 (.tmp 29) (.tmp 29) rfl _ 1 24 c Tryd.underlying49 info31 rfl rfl (by omega) (by omega)) ?_
  simp only [zp0, zp1, zp2, zp3]
  generalize w.alloc (.cells (madeCells (Value.slice none 0 0).cells (c * 1)) 39) = w1 at *
  refine wpList_run rfl (.slice (some ⟨w.heap.size, 0, none⟩) c c) (by simp [go_sem]) ?_
  simp only [zp0, zp1, zp2, zp3]
  have H1 := H0.copied (q := 1) (by omega)
  rw [Nat.zero_add] at H1
  have hr1 := fun (o : Oper) (a : Act) (ho : o.op = .call { callee := .builtin .copy, args := #[.tmp 31, .tmp 32], argTypes := #[49, 49] }) (h1 : a.eval (.tmp 31) = .slice (some ⟨w.heap.size, 0, none⟩) c c) (h2 : a.eval (.tmp 32) = .slice (some ⟨xb, 0, none⟩) 1 xc) => exec_copyR (P := Tryd.prog) (o := o) (a := a) (.tmp 31) (.tmp 32) 49 49 ho 39 Tryd.underlying49 size31 w.heap.size c _ H0.row 0 c c ⟨xb, 0, none⟩ 1 xc h1 h2 1 (fun _ => u) (by have : Nat.min 1 c = 1 := Nat.min_eq_left c1; omega) (fun j hj => by rw [show j = 0 by omega, add0]; exact hx1) (by omega) (fun _ _ => hu1)
  go_upto_region 7 with (fail)
  refine wp_region_lit ?_
  refine wpList_run rfl (.slice (some ⟨w.heap.size, 0, none⟩) c c) (by simp [go_sem]) ?_
  simp only [zp0, zp1, zp2, zp3]
  refine wpList_run rfl (.slice (some ⟨xb, 0, none⟩) 1 xc) (by simp [go_sem]) ?_
  simp only [zp0, zp1, zp2, zp3]
  refine wpList_to rfl (.int .i64 1) (w1.setCells w.heap.size 0 (row 1 fun _ => u)) (hr1 _ _ rfl rfl rfl) ?_
  simp only [zp0, zp1, zp2, zp3]
  generalize w1.setCells w.heap.size 0 (row 1 fun _ => u) = w2 at *
  clear hr1 H0 hx1
  replace H1 := hideit H1
  go_wp2
  go_loopw [8] (fun iv X => ∃ m : Nat, 1 ≤ m ∧ m ≤ c ∧ iv = .int .i64 (m : Int) ∧ RpS w c u m X) (fun iv _ => c - (intOf iv).toNat)
  case atStart => exact ⟨1, Nat.le_refl _, c1, rfl, H1.out⟩
  case round =>
    obtain ⟨m, hm1, hm, rfl, hN⟩ := hrel
    by_cases hlt : m < c
    · have m0 : (0 : Int) ≤ (m : Int) := by omega
      have m1 : (m : Int) < (c : Int) := by omega
      have m2 : (m : Int) ≤ (c : Int) := by omega
      have m3 : ¬ c = m := by omega
      obtain ⟨q, hq, hq1, hq2⟩ : ∃ q, q = Nat.min m (c - m) ∧ 1 ≤ q ∧ m + q ≤ c := ⟨_, rfl, Nat.le_min.2 ⟨hm1, by omega⟩, by have := Nat.min_le_right m (c - m); have h9 : Nat.min m (c - m) = min m (c - m) := rfl; omega⟩
      have hR0 : RowAt w.heap.size c (rpV u m) wr.drew := hN.row.drew
      have hr1 := fun (o : Oper) (a : Act) (ho : o.op = .call { callee := .builtin .copy, args := #[.tmp 41, .tmp 44], argTypes := #[49, 49] }) (h1 : a.eval (.tmp 41) = .slice (some ⟨w.heap.size, m, none⟩) (c - m) (c - m)) (h2 : a.eval (.tmp 44) = .slice (some ⟨w.heap.size, 0, none⟩) m c) => exec_copyR (P := Tryd.prog) (o := o) (a := a) (.tmp 41) (.tmp 44) 49 49 ho 39 Tryd.underlying49 size31 w.heap.size c _ hR0 m (c - m) (c - m) ⟨w.heap.size, 0, none⟩ m c h1 h2 q (fun _ => u) hq (fun j hj => by
        have hjm : j < m := by have := Nat.min_le_left m (c - m); have h9 : Nat.min m (c - m) = min m (c - m) := rfl; omega
        rw [add0, hR0.1 j (by omega)]
        unfold rpV
        rw [if_pos hjm]) (by omega) (fun _ _ => hu1)
      have H2 : Hid (RpS w c u (m + q) (wr.drew.setCells w.heap.size m (row q fun _ => u))) := RpS.copied ⟨hN.ext.draw, hN.row.drew, hN.is⟩ hq2
      have hsum : IntKind.i64.wrap ((m : Int) + (q : Int)) = ((m + q : Nat) : Int) := by rw [IntKind.wrap_i64]; omega
      clear hN hq hR0
      go_upto_region 9 with (fail)
      refine wp_region_lad (fun _ => True) [(false, 0), (false, 1), (false, 2), (false, 3), (false, 4), (false, 5), (false, 6), (true, 7), (false, 8), (false, 9)] (by kernel_rfl) (by kernel_rfl) (by decide +kernel) (by decide +kernel) (by decide +kernel) (by decide +kernel) trivial ?_
      refine wpX_f _ (.int .i64 (m : Int)) rfl rfl (fun X _ => by simp [go_sem]) ?_
      simp only [List.getElem_toArray, List.getElem_cons_zero, Act.put, List.setIfInBounds_toArray, List.set_cons_zero, List.set_cons_succ]
      refine wpX_f _ (.slice (some ⟨w.heap.size, 0, none⟩) c c) rfl rfl (fun X _ => by simp [go_sem]) ?_
      simp only [zp4, zp5, zp6, zp0, zp1, zp2, zp3]
      refine wpX_f _ (.int .i64 (m : Int)) rfl rfl (fun X _ => by simp [go_sem]) ?_
      simp only [zp4, zp5, zp6, zp0, zp1, zp2, zp3]
      refine wpX_f _ (.slice (some ⟨w.heap.size, m, none⟩) (c - m) (c - m)) rfl rfl (fun X _ => by simp [go_sem, add0, m2, m3]) ?_
      simp only [zp4, zp5, zp6, zp0, zp1, zp2, zp3]
      refine wpX_f _ (.slice (some ⟨w.heap.size, 0, none⟩) c c) rfl rfl (fun X _ => by simp [go_sem]) ?_
      simp only [zp4, zp5, zp6, zp0, zp1, zp2, zp3]
      refine wpX_f _ (.int .i64 (m : Int)) rfl rfl (fun X _ => by simp [go_sem]) ?_
      simp only [zp4, zp5, zp6, zp0, zp1, zp2, zp3]
      refine wpX_f _ (.slice (some ⟨w.heap.size, 0, none⟩) m c) rfl rfl (fun X _ => by simp [go_sem, m2]) ?_
      simp only [zp4, zp5, zp6, zp0, zp1, zp2, zp3]
      refine wpX_to _ (.int .i64 (q : Int)) (wr.drew.setCells w.heap.size m (row q fun _ => u)) rfl rfl (hr1 _ _ rfl rfl rfl) (fun _ => True) (fun _ h => h) trivial ?_
      simp only [zp4, zp5, zp6, zp0, zp1, zp2, zp3]
      refine wpX_f _ (.int .i64 ((m + q : Nat) : Int)) rfl rfl (fun X _ => by simp [go_sem, hsum]) ?_
      simp only [zp4, zp5, zp6, zp0, zp1, zp2, zp3]
      refine wpX_f _ (.int .i64 ((m + q : Nat) : Int)) rfl rfl (fun X _ => by simp [go_sem]) ?_
      simp only [zp4, zp5, zp6, zp0, zp1, zp2, zp3]
      refine wpX_nil ?_
      clear hr1
      generalize wr.drew.setCells w.heap.size m (row q fun _ => u) = w3 at *
      generalize hmq : m + q = mq at *
      replace hmq := hideit hmq
      go_wp2
      exact ⟨⟨mq, by have := hmq.out; omega, by have := hmq.out; omega, rfl, H2.out⟩, by simp [intOf]; have := hmq.out; omega⟩
    · obtain rfl : m = c := by omega
      have m1 : ¬ (m : Int) < (m : Int) := by omega
      replace hN := hideit hN
      go_wp2
      go_ret
      exact ⟨rfl, hN.out⟩
end Go.Proofs.YtiakkclabgelfaaDoor
