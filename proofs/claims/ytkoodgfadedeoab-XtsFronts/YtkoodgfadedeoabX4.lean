/-
  Units enciphered and deciphered.
-/
import Derived.Test.YtkoodgfadedeoabX3
namespace Go.Proofs.Ytkoodgfadedeoab
open Go.RowKit Go.BigFrame
def xencF (ch : BitVec 128 → (Nat → BitVec 8) → Nat → BitVec 8) (t : BitVec 128) (D : Nat → BitVec 8) (nb l : Nat) : Nat → BitVec 8 :=
  if l % 16 = 0 then fronts ch t D else stealF ch (dK 135#128 nb t) (dX 135#128 (dK 135#128 nb t)) (fronts ch t D) D (16 * nb) (l % 16)
def xdecF (ch : BitVec 128 → (Nat → BitVec 8) → Nat → BitVec 8) (t : BitVec 128) (D : Nat → BitVec 8) (nb l : Nat) : Nat → BitVec 8 :=
  if l % 16 = 0 then fronts ch t D else stealF ch (dX 135#128 (dK 135#128 nb t)) (dK 135#128 nb t) (fronts ch t D) D (16 * nb) (l % 16)
set_option maxRecDepth 20000 in
set_option maxHeartbeats 4000000 in
theorem xenc_any (q c1 c2 r l cap nb : Nat) (S1 S2 : Nat → BitVec 8) (hr : 1 ≤ r) (hr2 : r ≤ 14) (u : BitVec 64) (a : Addr) (D : Nat → BitVec 8) (w : World) (hP : PairAt q c1 c2 r S1 S2 w) (hl1 : 16 ≤ l) (hl2 : l ≤ 65536) (hcap : l ≤ cap) (hD : LieAt a l (yv D) w)
    (hnb : (l % 16 = 0 ∧ l = 16 * nb) ∨ (l % 16 ≠ 0 ∧ l = 16 * nb + 16 + l % 16)) :
    Calls Try.prog 6 #[.pointer (some ⟨q, 0, none⟩), .int .u64 (u.toNat : Int), .slice (some a) l cap] w fun e w' => ∃ v, e = .returned (.tuple #[v, .int .i64 0]) ∧ OwnB w.heap.size 5 v l (yv (xencF (chF (encF S1 bxT twT r)) (tw0 S2 r u) D nb l)) w' ∧ Below w.heap.size w w' := by
  replace hD := hideit hD
  obtain ⟨t0, ht0⟩ : ∃ t0, t0 = tw0 S2 r u := ⟨_, rfl⟩
  have hfirst : Hid (∀ X, Ext w X → Calls Try.prog 13 #[.pointer (some ⟨q, 0, none⟩), .int .u64 (u.toNat : Int)] X fun e w' => e = .returned (.agg #[.int .u64 ((lo t0).toNat : Int), .int .u64 ((hi t0).toNat : Int)]) ∧ Below X.heap.size X w') := fun X hX => by rw [ht0]; exact first_any q c1 c2 r S1 S2 hr hr2 u X (hP.ext hX)
  obtain ⟨cF, hcF⟩ : ∃ cF, cF = (encF S1 bxT twT r) := ⟨_, rfl⟩
  have hci : Hid (∀ X, Ext w X → ∀ f, Calls Try.prog 11 #[.pointer (some ⟨c1, 0, none⟩), .agg (row 16 (yv f)).toArray] X fun e w' => e = .returned (.agg (row 16 (yv (cF f))).toArray) ∧ Below X.heap.size X w') := fun X hX f => by rw [hcF]; exact enc_any c1 r S1 bxT ubT twT f hr hr2 X (hP.ext hX).blocks
  rw [← hcF, ← ht0]
  have eq0 := hP.one
  replace ht0 := hideit ht0
  replace hcF := hideit hcF
  clear hP
  have i0 : ¬ (l : Int) < 16 := by omega
  replace hnb := hideit hnb
  have hmf : ∀ (fn : Fn) (first cap : Array Value) (w : World), (Instr.makeFunc fn first cap).run Try.prog w = .ok (.func fn first cap) w := fun _ _ _ _ => rfl
  obtain ⟨ch, hch⟩ : ∃ ch, ch = chF cF := ⟨_, rfl⟩
  go_enter Try.func6, Try.ntmps6
  go_upto_region 5 with (first | (go_at_call 9; refine (refusal_ok _ _ l cap hl1 hl2 _).mono ?_; rintro e w0 ⟨rfl, rfl⟩) | (go_at_call 10; refine (between_any 11 (.pointer (some ⟨c1, 0, none⟩)) _).mono ?_; rintro e w1 ⟨rfl, h1, h2⟩; have HC1 := hideit h1; have HX1 : Hid (Ext _ w1) := hideit h2; clear h1 h2))
  obtain ⟨b, hb⟩ : ∃ b, b = w0.heap.size := ⟨_, rfl⟩
  rw [← hb]
  rw [← hb] at HC1
  clear eq0 hmf
  have hbw : Hid (∀ X, Ext w1 X → ∀ t f, Calls Try.prog 19 #[.agg #[.int .u64 ((lo t).toNat : Int), .int .u64 ((hi t).toNat : Int)], .agg (row 16 (yv f)).toArray, .pointer (some ⟨b, 0, none⟩)] X fun e w' => e = .returned (.agg (row 16 (yv (ch t f))).toArray) ∧ Below X.heap.size X w') := fun X hX t f => by
    rw [hch]
    exact betw_any 11 enters12 (.pointer (some ⟨c1, 0, none⟩)) cF t f b X ((Below.cell hX (p := ⟨b, 0, none⟩) (World.block_lt_of_cell? w1 _ HC1.out)).trans HC1.out) (fun Y hY f => hci.out Y (Ext.trans (Ext.trans HX1.out hX) hY) f)
  have hw0b : w0.heap.size ≤ b := by omega
  have hsz1 : b < w1.heap.size := World.block_lt_of_cell? w1 _ HC1.out
  clear hci HC1 hb
  obtain ⟨Tn, hTn⟩ : ∃ Tn, Tn = dK 135#128 nb t0 := ⟨_, rfl⟩
  have heach : Hid (∀ X, Ext w1 X → Calls Try.prog 12 #[.slice (some a) l cap, .agg #[.int .u64 ((lo t0).toNat : Int), .int .u64 ((hi t0).toNat : Int)], betwV b] X fun e w' => ∃ v, e = .returned (.tuple #[v, .agg #[.int .u64 ((lo Tn).toNat : Int), .int .u64 ((hi Tn).toNat : Int)]]) ∧ OwnB X.heap.size 5 v (16 * nb) (yv (fronts ch t0 D)) w' ∧ Below X.heap.size X w') := fun X hX => by
    rw [hTn]
    exact each_any l cap nb a D t0 b ch X hl1 hl2 hcap (hD.out.carry (Ext.trans HX1.out hX)) hnb.out (fun Y hY => hbw.out Y (Ext.trans hX hY))
  replace hTn := hideit hTn
  replace hch := hideit hch
  go_upto_region 6 with (first | (go_at_call 13; refine (hfirst.out _ HX1.out).mono ?_; rintro e w2 ⟨rfl, h2⟩; have HX2 : Hid (Ext w1 w2) := hideit h2; clear h2) | (go_at_call 12; refine (heach.out _ HX2.out).mono ?_; rintro e w3 ⟨v, rfl, hO, h3⟩; have HO3 := hideit hO; have HX3 : Hid (Ext w2 w3) := hideit h3; clear h3 hO; obtain ⟨d, hd⟩ : ∃ d, d = w3.heap.size := ⟨_, rfl⟩; have HN4 : Hid (RowAt d 2 (hv 0#128) (w3.alloc (.cells #[.int .u64 0, .int .u64 0] 44))) := hideit (by rw [hd]; exact RowAt.new w3 2 (hv 0#128) 44)) | (rw [← hd]; refine wpList_store_mid rfl 44 (.tmp 11) (.tmp 32) rfl _ 0 (row 2 (hv Tn)).toArray rfl rfl (by rw [row_size]; exact HN4.out.there) (by rw [row_size]; exact info80) (hv_one _) ?_))
  have HEx : Ext w3 (w3.alloc (.cells #[.int .u64 0, .int .u64 0] 44)) := (Below.refl _ _).alloc (Nat.le_refl _) _
  have HBu : But d (w3.alloc (.cells #[.int .u64 0, .int .u64 0] 44)) ((w3.alloc (.cells #[.int .u64 0, .int .u64 0] 44)).setCells d 0 (row 2 (hv Tn))) := But.sets _ 0 _ (But.refl _ _)
  have hsz2 : w1.heap.size ≤ w2.heap.size := Below.size HX2.out
  have hsz3 : w2.heap.size ≤ w3.heap.size := Below.size HX3.out
  have hvd : v.ownBlock ≠ some d := fun h => by have := (HO3.out.lt d h).2; omega
  have HT5 := hideit (HN4.out.cells (g' := hv Tn))
  have HO5 := hideit ((HO3.out.ext HEx).but HBu hvd)
  have HX5 : Hid (Ext w1 ((w3.alloc (.cells #[.int .u64 0, .int .u64 0] 44)).setCells d 0 (row 2 (hv Tn)))) := hideit (Ext.but (Ext.trans (Ext.trans HX2.out HX3.out) HEx) HBu (by omega))
  have hdd : w3.heap.size ≤ d := by omega
  clear HN4 HEx HBu hd HO3 HX3 HX2 heach hfirst hvd
  generalize (w3.alloc (.cells #[.int .u64 0, .int .u64 0] 44)).setCells d 0 (row 2 (hv Tn)) = Y at *
  simp only [Act.put]
  have e0 : ∀ k : Kept (Ext Y.drew), k.w.cell? ⟨d, 0, none⟩ = some (.int .u64 ((lo Tn).toNat : Int)) := fun k => (HT5.out.drew.carry k.ok).1 0 (by omega)
  have e1 : ∀ k : Kept (Ext Y.drew), k.w.cell? ⟨d, 1, none⟩ = some (.int .u64 ((hi Tn).toNat : Int)) := fun k => (HT5.out.drew.carry k.ok).1 1 (by omega)
  have hne := kept_ne Y.drew
  refine wp_region_late 6 (by kernel_rfl) (by kernel_rfl) (by decide) ?_
  simp only [List.take_succ_cons, List.take_zero, List.drop_succ_cons, List.drop_zero]
  refine wpStrong_run 4 rfl ?_
  simp only [List.take_succ_cons, List.take_zero, List.drop_succ_cons, List.drop_zero]
  repeat (go_big_quiet_step (fail))
  refine wpQuiet_nil ?_
  refine wpStrong_call rfl (fun X => by simp [go_sem]) (fun X _ => double_any Tn X) ?_
  simp only [Act.put, List.setIfInBounds_toArray, List.set_cons_zero, List.set_cons_succ]
  refine wpStrong_run 1 rfl ?_
  simp only [List.take_succ_cons, List.take_zero, List.drop_succ_cons, List.drop_zero]
  repeat (go_big_quiet_step (fail))
  refine wpQuiet_nil ?_
  refine wpStrong_nil ?_
  intro X hX
  have hX' : Ext Y X := Ext.trans ((Below.refl _ _).drew) hX
  have HO := hideit (HO5.out.ext hX')
  have HX : Hid (Ext w1 X) := hideit (Ext.trans HX5.out hX')
  have hszY : w2.heap.size ≤ X.heap.size := by
    have h1 := (HO.out.2)
    have h2 := Below.size HX.out
    have h3 := Below.size HX5.out
    have h4 := Below.size hX'
    have h5 : d < Y.heap.size := HT5.out.2.2
    omega
  clear hne e0 e1 hX hX' HT5 HO5 HX5
  rcases hnb.out with ⟨hm0, hlm⟩ | ⟨hm0, hlm⟩
  · obtain ⟨va, vc, hv⟩ : ∃ va vc, v = .slice va l vc := by
      rcases HO.out.2 with ⟨h, h0⟩ | ⟨g, cap, cur, h, _⟩
      · omega
      · rw [← hlm] at h; exact ⟨_, cap, h⟩
    have hst := hideit (steal_none l cap a Tn (dX 135#128 Tn) v vc va hv hcap hl2 (betwV b) X)
    refine wpList_call rfl (by simp [go_sem]) (hst.out.mono ?_)
    rintro e w6 ⟨rfl, h6⟩
    refine ⟨_, rfl, ?_⟩
    simp only [Act.put, List.setIfInBounds_toArray, List.set_cons_zero, List.set_cons_succ]
    have HOF : OwnB w0.heap.size 5 v l (yv (xencF ch t0 D nb l)) w6 := by
      have h7 := HO.out.ext h6
      rw [← hlm] at h7
      have h8 : xencF ch t0 D nb l = fronts ch t0 D := by unfold xencF; rw [if_pos hm0]
      rw [h8]
      exact ⟨h7.1, h7.2.imp id fun ⟨g, cp, cur, k1, k2, k3⟩ => ⟨g, cp, cur, k1, by have := Below.size HX1.out; omega, k3⟩⟩
    have HBF : Ext w0 w6 := Ext.trans (Ext.trans HX1.out HX.out) h6
    rw [hch.out] at HOF
    replace HOF := hideit HOF
    replace HBF := hideit HBF
    clear h6 HO HX hst hv
    go_wp2
    refine bodyPost_ret (results_tmp2 Try.results6 _ _ _) rfl ?_
    exact ⟨v, rfl, HOF.out, HBF.out⟩
  · obtain ⟨sh, hsh⟩ : ∃ sh, sh = l % 16 := ⟨_, rfl⟩
    have hst := steal_any w2.heap.size (16 * nb) sh cap a D (fronts ch t0 D) Tn (dX 135#128 Tn) b ch v X (by omega) (by omega) (by omega) (by omega) (by have := hD.out.carry (Ext.trans HX1.out HX.out); rwa [show 16 * nb + 16 + sh = l by omega]) HO.out hszY (fun Y hY => hbw.out Y (Ext.trans HX.out hY))
    rw [show 16 * nb + 16 + sh = l by omega] at hst
    replace hst := hideit hst
    refine wpList_call rfl (by simp [go_sem]) (hst.out.mono ?_)
    rintro e w6 ⟨v6, rfl, ho6, h6⟩
    refine ⟨_, rfl, ?_⟩
    simp only [Act.put, List.setIfInBounds_toArray, List.set_cons_zero, List.set_cons_succ]
    have HOF : OwnB w0.heap.size 5 v6 l (yv (xencF ch t0 D nb l)) w6 := by
      have h8 : xencF ch t0 D nb l = stealF ch Tn (dX 135#128 Tn) (fronts ch t0 D) D (16 * nb) sh := by unfold xencF; rw [if_neg hm0, ← hTn.out, ← hsh]
      rw [h8]
      exact ⟨ho6.1, ho6.2.imp id fun ⟨g, cp, cur, k1, k2, k3⟩ => ⟨g, cp, cur, k1, by have := Below.size HX1.out; omega, k3⟩⟩
    have HBF : Ext w0 w6 := Below.trans (Ext.trans HX1.out HX.out) (Below.mono h6 (by have := Below.size HX1.out; omega))
    rw [hch.out] at HOF
    replace HOF := hideit HOF
    replace HBF := hideit HBF
    clear h6 ho6 HO HX hst hsh
    go_wp2
    refine bodyPost_ret (results_tmp2 Try.results6 _ _ _) rfl ?_
    exact ⟨v6, rfl, HOF.out, HBF.out⟩
set_option maxRecDepth 20000 in
set_option maxHeartbeats 4000000 in
theorem xdec_any (q c1 c2 r l cap nb : Nat) (S1 S2 : Nat → BitVec 8) (hr : 1 ≤ r) (hr2 : r ≤ 14) (u : BitVec 64) (a : Addr) (D : Nat → BitVec 8) (w : World) (hP : PairAt q c1 c2 r S1 S2 w) (hl1 : 16 ≤ l) (hl2 : l ≤ 65536) (hcap : l ≤ cap) (hD : LieAt a l (yv D) w)
    (hnb : (l % 16 = 0 ∧ l = 16 * nb) ∨ (l % 16 ≠ 0 ∧ l = 16 * nb + 16 + l % 16)) :
    Calls Try.prog 7 #[.pointer (some ⟨q, 0, none⟩), .int .u64 (u.toNat : Int), .slice (some a) l cap] w fun e w' => ∃ v, e = .returned (.tuple #[v, .int .i64 0]) ∧ OwnB w.heap.size 5 v l (yv (xdecF (chF (decF S1 ubT twT r)) (tw0 S2 r u) D nb l)) w' ∧ Below w.heap.size w w' := by
  replace hD := hideit hD
  obtain ⟨t0, ht0⟩ : ∃ t0, t0 = tw0 S2 r u := ⟨_, rfl⟩
  have hfirst : Hid (∀ X, Ext w X → Calls Try.prog 13 #[.pointer (some ⟨q, 0, none⟩), .int .u64 (u.toNat : Int)] X fun e w' => e = .returned (.agg #[.int .u64 ((lo t0).toNat : Int), .int .u64 ((hi t0).toNat : Int)]) ∧ Below X.heap.size X w') := fun X hX => by rw [ht0]; exact first_any q c1 c2 r S1 S2 hr hr2 u X (hP.ext hX)
  obtain ⟨cF, hcF⟩ : ∃ cF, cF = (decF S1 ubT twT r) := ⟨_, rfl⟩
  have hci : Hid (∀ X, Ext w X → ∀ f, Calls Try.prog 16 #[.pointer (some ⟨c1, 0, none⟩), .agg (row 16 (yv f)).toArray] X fun e w' => e = .returned (.agg (row 16 (yv (cF f))).toArray) ∧ Below X.heap.size X w') := fun X hX f => by rw [hcF]; exact dec_any c1 r S1 bxT ubT twT f hr hr2 X (hP.ext hX).blocks
  rw [← hcF, ← ht0]
  have eq0 := hP.one
  replace ht0 := hideit ht0
  replace hcF := hideit hcF
  clear hP
  have i0 : ¬ (l : Int) < 16 := by omega
  replace hnb := hideit hnb
  have hmf : ∀ (fn : Fn) (first cap : Array Value) (w : World), (Instr.makeFunc fn first cap).run Try.prog w = .ok (.func fn first cap) w := fun _ _ _ _ => rfl
  obtain ⟨ch, hch⟩ : ∃ ch, ch = chF cF := ⟨_, rfl⟩
  go_enter Try.func7, Try.ntmps7
  go_upto_region 5 with (first | (go_at_call 9; refine (refusal_ok _ _ l cap hl1 hl2 _).mono ?_; rintro e w0 ⟨rfl, rfl⟩) | (go_at_call 10; refine (between_any 16 (.pointer (some ⟨c1, 0, none⟩)) _).mono ?_; rintro e w1 ⟨rfl, h1, h2⟩; have HC1 := hideit h1; have HX1 : Hid (Ext _ w1) := hideit h2; clear h1 h2))
  obtain ⟨b, hb⟩ : ∃ b, b = w0.heap.size := ⟨_, rfl⟩
  rw [← hb]
  rw [← hb] at HC1
  clear eq0 hmf
  have hbw : Hid (∀ X, Ext w1 X → ∀ t f, Calls Try.prog 19 #[.agg #[.int .u64 ((lo t).toNat : Int), .int .u64 ((hi t).toNat : Int)], .agg (row 16 (yv f)).toArray, .pointer (some ⟨b, 0, none⟩)] X fun e w' => e = .returned (.agg (row 16 (yv (ch t f))).toArray) ∧ Below X.heap.size X w') := fun X hX t f => by
    rw [hch]
    exact betw_any 16 enters14 (.pointer (some ⟨c1, 0, none⟩)) cF t f b X ((Below.cell hX (p := ⟨b, 0, none⟩) (World.block_lt_of_cell? w1 _ HC1.out)).trans HC1.out) (fun Y hY f => hci.out Y (Ext.trans (Ext.trans HX1.out hX) hY) f)
  have hw0b : w0.heap.size ≤ b := by omega
  have hsz1 : b < w1.heap.size := World.block_lt_of_cell? w1 _ HC1.out
  clear hci HC1 hb
  obtain ⟨Tn, hTn⟩ : ∃ Tn, Tn = dK 135#128 nb t0 := ⟨_, rfl⟩
  have heach : Hid (∀ X, Ext w1 X → Calls Try.prog 12 #[.slice (some a) l cap, .agg #[.int .u64 ((lo t0).toNat : Int), .int .u64 ((hi t0).toNat : Int)], betwV b] X fun e w' => ∃ v, e = .returned (.tuple #[v, .agg #[.int .u64 ((lo Tn).toNat : Int), .int .u64 ((hi Tn).toNat : Int)]]) ∧ OwnB X.heap.size 5 v (16 * nb) (yv (fronts ch t0 D)) w' ∧ Below X.heap.size X w') := fun X hX => by
    rw [hTn]
    exact each_any l cap nb a D t0 b ch X hl1 hl2 hcap (hD.out.carry (Ext.trans HX1.out hX)) hnb.out (fun Y hY => hbw.out Y (Ext.trans hX hY))
  replace hTn := hideit hTn
  replace hch := hideit hch
  go_upto_region 6 with (first | (go_at_call 13; refine (hfirst.out _ HX1.out).mono ?_; rintro e w2 ⟨rfl, h2⟩; have HX2 : Hid (Ext w1 w2) := hideit h2; clear h2) | (go_at_call 12; refine (heach.out _ HX2.out).mono ?_; rintro e w3 ⟨v, rfl, hO, h3⟩; have HO3 := hideit hO; have HX3 : Hid (Ext w2 w3) := hideit h3; clear h3 hO; obtain ⟨d, hd⟩ : ∃ d, d = w3.heap.size := ⟨_, rfl⟩; have HN4 : Hid (RowAt d 2 (hv 0#128) (w3.alloc (.cells #[.int .u64 0, .int .u64 0] 44))) := hideit (by rw [hd]; exact RowAt.new w3 2 (hv 0#128) 44)) | (rw [← hd]; refine wpList_store_mid rfl 44 (.tmp 11) (.tmp 32) rfl _ 0 (row 2 (hv Tn)).toArray rfl rfl (by rw [row_size]; exact HN4.out.there) (by rw [row_size]; exact info80) (hv_one _) ?_))
  have HEx : Ext w3 (w3.alloc (.cells #[.int .u64 0, .int .u64 0] 44)) := (Below.refl _ _).alloc (Nat.le_refl _) _
  have HBu : But d (w3.alloc (.cells #[.int .u64 0, .int .u64 0] 44)) ((w3.alloc (.cells #[.int .u64 0, .int .u64 0] 44)).setCells d 0 (row 2 (hv Tn))) := But.sets _ 0 _ (But.refl _ _)
  have hsz2 : w1.heap.size ≤ w2.heap.size := Below.size HX2.out
  have hsz3 : w2.heap.size ≤ w3.heap.size := Below.size HX3.out
  have hvd : v.ownBlock ≠ some d := fun h => by have := (HO3.out.lt d h).2; omega
  have HT5 := hideit (HN4.out.cells (g' := hv Tn))
  have HO5 := hideit ((HO3.out.ext HEx).but HBu hvd)
  have HX5 : Hid (Ext w1 ((w3.alloc (.cells #[.int .u64 0, .int .u64 0] 44)).setCells d 0 (row 2 (hv Tn)))) := hideit (Ext.but (Ext.trans (Ext.trans HX2.out HX3.out) HEx) HBu (by omega))
  have hdd : w3.heap.size ≤ d := by omega
  clear HN4 HEx HBu hd HO3 HX3 HX2 heach hfirst hvd
  generalize (w3.alloc (.cells #[.int .u64 0, .int .u64 0] 44)).setCells d 0 (row 2 (hv Tn)) = Y at *
  simp only [Act.put]
  have e0 : ∀ k : Kept (Ext Y.drew), k.w.cell? ⟨d, 0, none⟩ = some (.int .u64 ((lo Tn).toNat : Int)) := fun k => (HT5.out.drew.carry k.ok).1 0 (by omega)
  have e1 : ∀ k : Kept (Ext Y.drew), k.w.cell? ⟨d, 1, none⟩ = some (.int .u64 ((hi Tn).toNat : Int)) := fun k => (HT5.out.drew.carry k.ok).1 1 (by omega)
  have hne := kept_ne Y.drew
  refine wp_region_late 6 (by kernel_rfl) (by kernel_rfl) (by decide) ?_
  simp only [List.take_succ_cons, List.take_zero, List.drop_succ_cons, List.drop_zero]
  refine wpStrong_run 3 rfl ?_
  simp only [List.take_succ_cons, List.take_zero, List.drop_succ_cons, List.drop_zero]
  repeat (go_big_quiet_step (fail))
  refine wpQuiet_nil ?_
  refine wpStrong_call rfl (fun X => by simp [go_sem]) (fun X _ => double_any Tn X) ?_
  simp only [Act.put, List.setIfInBounds_toArray, List.set_cons_zero, List.set_cons_succ]
  refine wpStrong_run 2 rfl ?_
  simp only [List.take_succ_cons, List.take_zero, List.drop_succ_cons, List.drop_zero]
  repeat (go_big_quiet_step (fail))
  refine wpQuiet_nil ?_
  refine wpStrong_nil ?_
  intro X hX
  have hX' : Ext Y X := Ext.trans ((Below.refl _ _).drew) hX
  have HO := hideit (HO5.out.ext hX')
  have HX : Hid (Ext w1 X) := hideit (Ext.trans HX5.out hX')
  have hszY : w2.heap.size ≤ X.heap.size := by
    have h1 := (HO.out.2)
    have h2 := Below.size HX.out
    have h3 := Below.size HX5.out
    have h4 := Below.size hX'
    have h5 : d < Y.heap.size := HT5.out.2.2
    omega
  clear hne e0 e1 hX hX' HT5 HO5 HX5
  rcases hnb.out with ⟨hm0, hlm⟩ | ⟨hm0, hlm⟩
  · obtain ⟨va, vc, hv⟩ : ∃ va vc, v = .slice va l vc := by
      rcases HO.out.2 with ⟨h, h0⟩ | ⟨g, cap, cur, h, _⟩
      · omega
      · rw [← hlm] at h; exact ⟨_, cap, h⟩
    have hst := hideit (steal_none l cap a (dX 135#128 Tn) Tn v vc va hv hcap hl2 (betwV b) X)
    refine wpList_call rfl (by simp [go_sem]) (hst.out.mono ?_)
    rintro e w6 ⟨rfl, h6⟩
    refine ⟨_, rfl, ?_⟩
    simp only [Act.put, List.setIfInBounds_toArray, List.set_cons_zero, List.set_cons_succ]
    have HOF : OwnB w0.heap.size 5 v l (yv (xdecF ch t0 D nb l)) w6 := by
      have h7 := HO.out.ext h6
      rw [← hlm] at h7
      have h8 : xdecF ch t0 D nb l = fronts ch t0 D := by unfold xdecF; rw [if_pos hm0]
      rw [h8]
      exact ⟨h7.1, h7.2.imp id fun ⟨g, cp, cur, k1, k2, k3⟩ => ⟨g, cp, cur, k1, by have := Below.size HX1.out; omega, k3⟩⟩
    have HBF : Ext w0 w6 := Ext.trans (Ext.trans HX1.out HX.out) h6
    rw [hch.out] at HOF
    replace HOF := hideit HOF
    replace HBF := hideit HBF
    clear h6 HO HX hst hv
    go_wp2
    refine bodyPost_ret (results_tmp2 Try.results7 _ _ _) rfl ?_
    exact ⟨v, rfl, HOF.out, HBF.out⟩
  · obtain ⟨sh, hsh⟩ : ∃ sh, sh = l % 16 := ⟨_, rfl⟩
    have hst := steal_any w2.heap.size (16 * nb) sh cap a D (fronts ch t0 D) (dX 135#128 Tn) Tn b ch v X (by omega) (by omega) (by omega) (by omega) (by have := hD.out.carry (Ext.trans HX1.out HX.out); rwa [show 16 * nb + 16 + sh = l by omega]) HO.out hszY (fun Y hY => hbw.out Y (Ext.trans HX.out hY))
    rw [show 16 * nb + 16 + sh = l by omega] at hst
    replace hst := hideit hst
    refine wpList_call rfl (by simp [go_sem]) (hst.out.mono ?_)
    rintro e w6 ⟨v6, rfl, ho6, h6⟩
    refine ⟨_, rfl, ?_⟩
    simp only [Act.put, List.setIfInBounds_toArray, List.set_cons_zero, List.set_cons_succ]
    have HOF : OwnB w0.heap.size 5 v6 l (yv (xdecF ch t0 D nb l)) w6 := by
      have h8 : xdecF ch t0 D nb l = stealF ch (dX 135#128 Tn) Tn (fronts ch t0 D) D (16 * nb) sh := by unfold xdecF; rw [if_neg hm0, ← hTn.out, ← hsh]
      rw [h8]
      exact ⟨ho6.1, ho6.2.imp id fun ⟨g, cp, cur, k1, k2, k3⟩ => ⟨g, cp, cur, k1, by have := Below.size HX1.out; omega, k3⟩⟩
    have HBF : Ext w0 w6 := Below.trans (Ext.trans HX1.out HX.out) (Below.mono h6 (by have := Below.size HX1.out; omega))
    rw [hch.out] at HOF
    replace HOF := hideit HOF
    replace HBF := hideit HBF
    clear h6 ho6 HO HX hst hsh
    go_wp2
    refine bodyPost_ret (results_tmp2 Try.results7 _ _ _) rfl ?_
    exact ⟨v6, rfl, HOF.out, HBF.out⟩
end Go.Proofs.Ytkoodgfadedeoab
