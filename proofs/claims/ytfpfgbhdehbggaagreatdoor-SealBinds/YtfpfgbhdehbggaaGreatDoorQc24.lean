/-
  Units enciphered and deciphered. The words of a key of 16 bytes: what the cipher's own function makes of them. The words of a key of 32 bytes: what the cipher's own function makes of them.
-/
import Derived.Test.YtfpfgbhdehbggaaGreatDoorQc1
import Derived.Test.YtfpfgbhdehbggaaGreatDoorQc23
import Derived.Test.YtfpfgbhdehbggaaGreatDoorQc22
import Derived.Test.YtfpfgbhdehbggaaGreatDoorQc2
import Derived.Deep.CutRange
namespace Go.Proofs.YtfpfgbhdehbggaaGreatDoor
set_option maxRecDepth 20000
open Go.RowKit Go.BigFrame
def xencF (ch : BitVec 128 → (Nat → BitVec 8) → Nat → BitVec 8) (t : BitVec 128) (D : Nat → BitVec 8) (nb l : Nat) : Nat → BitVec 8 :=
  if l % 16 = 0 then fronts ch t D else stealF ch (dK 135#128 nb t) (dX 135#128 (dK 135#128 nb t)) (fronts ch t D) D (16 * nb) (l % 16)
def xdecF (ch : BitVec 128 → (Nat → BitVec 8) → Nat → BitVec 8) (t : BitVec 128) (D : Nat → BitVec 8) (nb l : Nat) : Nat → BitVec 8 :=
  if l % 16 = 0 then fronts ch t D else stealF ch (dX 135#128 (dK 135#128 nb t)) (dK 135#128 nb t) (fronts ch t D) D (16 * nb) (l % 16)
set_option maxRecDepth 20000 in
set_option maxHeartbeats 4000000 in
theorem xenc_any (q c1 c2 r l cap nb : Nat) (S1 S2 : Nat → BitVec 8) (hr : 1 ≤ r) (hr2 : r ≤ 14) (u : BitVec 64) (a : Addr) (D : Nat → BitVec 8) (w : World) (hP : PairAt q c1 c2 r S1 S2 w) (hl1 : 16 ≤ l) (hl2 : l ≤ 65536) (hcap : l ≤ cap) (hD : LieAt a l (yv D) w)
    (hnb : (l % 16 = 0 ∧ l = 16 * nb) ∨ (l % 16 ≠ 0 ∧ l = 16 * nb + 16 + l % 16)) :
    Calls Tryz.prog 15 #[.pointer (some ⟨q, 0, none⟩), .int .u64 (u.toNat : Int), .slice (some a) l cap] w fun e w' => ∃ v, e = .returned (.tuple #[v, .int .i64 0]) ∧ OwnB w.heap.size 5 v l (yv (xencF (chF (encF S1 bxT twT r)) (tw0 S2 r u) D nb l)) w' ∧ Below w.heap.size w w' := by
  replace hD := hideit hD
  obtain ⟨t0, ht0⟩ : ∃ t0, t0 = tw0 S2 r u := ⟨_, rfl⟩
  have hfirst : Hid (∀ X, Ext w X → Calls Tryz.prog 36 #[.pointer (some ⟨q, 0, none⟩), .int .u64 (u.toNat : Int)] X fun e w' => e = .returned (.agg #[.int .u64 ((lo t0).toNat : Int), .int .u64 ((hi t0).toNat : Int)]) ∧ Below X.heap.size X w') := fun X hX => by rw [ht0]; exact first_anyA q c1 c2 r S1 S2 hr hr2 u X (hP.ext hX)
  obtain ⟨cF, hcF⟩ : ∃ cF, cF = (encF S1 bxT twT r) := ⟨_, rfl⟩
  have hci : Hid (∀ X, Ext w X → ∀ f, Calls Tryz.prog 34 #[.pointer (some ⟨c1, 0, none⟩), .agg (row 16 (yv f)).toArray] X fun e w' => e = .returned (.agg (row 16 (yv (cF f))).toArray) ∧ Below X.heap.size X w') := fun X hX f => by rw [hcF]; exact enc_any c1 r S1 bxT ubT twT f hr hr2 X (hP.ext hX).blocks
  rw [← hcF, ← ht0]
  have eq0 := hP.one
  replace ht0 := hideit ht0
  replace hcF := hideit hcF
  clear hP
  have i0 : ¬ (l : Int) < 16 := by omega
  replace hnb := hideit hnb
  have hmf : ∀ (fn : Fn) (first cap : Array Value) (w : World), (Instr.makeFunc fn first cap).run Tryz.prog w = .ok (.func fn first cap) w := fun _ _ _ _ => rfl
  obtain ⟨ch, hch⟩ : ∃ ch, ch = chF cF := ⟨_, rfl⟩
  go_enter Tryz.func15, Tryz.ntmps15
  go_upto_region 5 with (first | (go_at_call 32; refine (refusal_ok _ _ l cap hl1 hl2 _).mono ?_; rintro e w0 ⟨rfl, rfl⟩) | (go_at_call 33; refine (between_any 34 (.pointer (some ⟨c1, 0, none⟩)) _).mono ?_; rintro e w1 ⟨rfl, h1, h2⟩; have HC1 := hideit h1; have HX1 : Hid (Ext _ w1) := hideit h2; clear h1 h2))
  obtain ⟨b, hb⟩ : ∃ b, b = w0.heap.size := ⟨_, rfl⟩
  rw [← hb]
  rw [← hb] at HC1
  clear eq0 hmf
  have hbw : Hid (∀ X, Ext w1 X → ∀ t f, Calls Tryz.prog 59 #[.agg #[.int .u64 ((lo t).toNat : Int), .int .u64 ((hi t).toNat : Int)], .agg (row 16 (yv f)).toArray, .pointer (some ⟨b, 0, none⟩)] X fun e w' => e = .returned (.agg (row 16 (yv (ch t f))).toArray) ∧ Below X.heap.size X w') := fun X hX t f => by
    rw [hch]
    exact betw_any 34 enters12 (.pointer (some ⟨c1, 0, none⟩)) cF t f b X ((Below.cell hX (p := ⟨b, 0, none⟩) (World.block_lt_of_cell? w1 _ HC1.out)).trans HC1.out) (fun Y hY f => hci.out Y (Ext.trans (Ext.trans HX1.out hX) hY) f)
  have hw0b : w0.heap.size ≤ b := by omega
  have hsz1 : b < w1.heap.size := World.block_lt_of_cell? w1 _ HC1.out
  clear hci HC1 hb
  obtain ⟨Tn, hTn⟩ : ∃ Tn, Tn = dK 135#128 nb t0 := ⟨_, rfl⟩
  have heach : Hid (∀ X, Ext w1 X → Calls Tryz.prog 35 #[.slice (some a) l cap, .agg #[.int .u64 ((lo t0).toNat : Int), .int .u64 ((hi t0).toNat : Int)], betwV b] X fun e w' => ∃ v, e = .returned (.tuple #[v, .agg #[.int .u64 ((lo Tn).toNat : Int), .int .u64 ((hi Tn).toNat : Int)]]) ∧ OwnB X.heap.size 5 v (16 * nb) (yv (fronts ch t0 D)) w' ∧ Below X.heap.size X w') := fun X hX => by
    rw [hTn]
    exact each_any l cap nb a D t0 b ch X hl1 hl2 hcap (hD.out.carry (Ext.trans HX1.out hX)) hnb.out (fun Y hY => hbw.out Y (Ext.trans hX hY))
  replace hTn := hideit hTn
  replace hch := hideit hch
  go_upto_region 6 with (first | (go_at_call 36; refine (hfirst.out _ HX1.out).mono ?_; rintro e w2 ⟨rfl, h2⟩; have HX2 : Hid (Ext w1 w2) := hideit h2; clear h2) | (go_at_call 35; refine (heach.out _ HX2.out).mono ?_; rintro e w3 ⟨v, rfl, hO, h3⟩; have HO3 := hideit hO; have HX3 : Hid (Ext w2 w3) := hideit h3; clear h3 hO; obtain ⟨d, hd⟩ : ∃ d, d = w3.heap.size := ⟨_, rfl⟩; have HN4 : Hid (RowAt d 2 (hvA 0#128) (w3.alloc (.cells #[.int .u64 0, .int .u64 0] 77))) := hideit (by rw [hd]; exact RowAt.new w3 2 (hvA 0#128) 77)) | (rw [← hd]; refine wpList_store_mid rfl 77 (.tmp 11) (.tmp 32) rfl _ 0 (row 2 (hvA Tn)).toArray rfl rfl (by rw [row_size]; exact HN4.out.there) (by rw [row_size]; exact info80) (hv_one _) ?_))
  have HEx : Ext w3 (w3.alloc (.cells #[.int .u64 0, .int .u64 0] 77)) := (Below.refl _ _).alloc (Nat.le_refl _) _
  have HBu : But d (w3.alloc (.cells #[.int .u64 0, .int .u64 0] 77)) ((w3.alloc (.cells #[.int .u64 0, .int .u64 0] 77)).setCells d 0 (row 2 (hvA Tn))) := But.sets _ 0 _ (But.refl _ _)
  have hsz2 : w1.heap.size ≤ w2.heap.size := Below.size HX2.out
  have hsz3 : w2.heap.size ≤ w3.heap.size := Below.size HX3.out
  have hvd : v.ownBlock ≠ some d := fun h => by have := (HO3.out.lt d h).2; omega
  have HT5 := hideit (HN4.out.cells (g' := hvA Tn))
  have HO5 := hideit ((HO3.out.ext HEx).but HBu hvd)
  have HX5 : Hid (Ext w1 ((w3.alloc (.cells #[.int .u64 0, .int .u64 0] 77)).setCells d 0 (row 2 (hvA Tn)))) := hideit (Ext.but (Ext.trans (Ext.trans HX2.out HX3.out) HEx) HBu (by omega))
  have hdd : w3.heap.size ≤ d := by omega
  clear HN4 HEx HBu hd HO3 HX3 HX2 heach hfirst hvd
  generalize (w3.alloc (.cells #[.int .u64 0, .int .u64 0] 77)).setCells d 0 (row 2 (hvA Tn)) = Y at *
  simp only [Act.put]
  have e0 : ∀ k : Kept (Ext Y.drew), k.w.cell? ⟨d, 0, none⟩ = some (.int .u64 ((lo Tn).toNat : Int)) := fun k => (HT5.out.drew.carry k.ok).1 0 (by omega)
  have e1 : ∀ k : Kept (Ext Y.drew), k.w.cell? ⟨d, 1, none⟩ = some (.int .u64 ((hi Tn).toNat : Int)) := fun k => (HT5.out.drew.carry k.ok).1 1 (by omega)
  have hne := kept_ne Y.drew
  refine wp_region_late 6 (by kernel_rfl) (by kernel_rfl) (by decide) ?_
  simp only [List.take_succ_cons, List.take_zero, List.drop_succ_cons, List.drop_zero]
  refine wpStrong_run 4 rfl ?_
  simp only [List.take_succ_cons, List.take_zero, List.drop_succ_cons, List.drop_zero]
  repeat (go_big_quiet_step (fail))
  refine wpQuiet_nil ?_
  refine wpStrong_call rfl (fun X => by simp [go_sem]) (fun X _ => double_any Tn X) ?_
  simp only [zp0, zp1, zp2, zp3]
  refine wpStrong_run 1 rfl ?_
  simp only [List.take_succ_cons, List.take_zero, List.drop_succ_cons, List.drop_zero]
  repeat (go_big_quiet_step (fail))
  refine wpQuiet_nil ?_
  refine wpStrong_nil ?_
  intro X hX
  have hX' : Ext Y X := Ext.trans ((Below.refl _ _).drew) hX
  have HO := hideit (HO5.out.ext hX')
  have HX : Hid (Ext w1 X) := hideit (Ext.trans HX5.out hX')
  have hszY : w2.heap.size ≤ X.heap.size := by
    have h1 := (HO.out.2)
    have h2 := Below.size HX.out
    have h3 := Below.size HX5.out
    have h4 := Below.size hX'
    have h5 : d < Y.heap.size := HT5.out.2.2
    omega
  clear hne e0 e1 hX hX' HT5 HO5 HX5
  rcases hnb.out with ⟨hm0, hlm⟩ | ⟨hm0, hlm⟩
  · obtain ⟨va, vc, hvA⟩ : ∃ va vc, v = .slice va l vc := by
      rcases HO.out.2 with ⟨h, h0⟩ | ⟨g, cap, cur, h, _⟩
      · omega
      · rw [← hlm] at h; exact ⟨_, cap, h⟩
    have hst := hideit (steal_none l cap a Tn (dX 135#128 Tn) v vc va hvA hcap hl2 (betwV b) X)
    refine wpList_call rfl (by simp [go_sem]) (hst.out.mono ?_)
    rintro e w6 ⟨rfl, h6⟩
    refine ⟨_, rfl, ?_⟩
    simp only [zp0, zp1, zp2, zp3]
    have HOF : OwnB w0.heap.size 5 v l (yv (xencF ch t0 D nb l)) w6 := by
      have h7 := HO.out.ext h6
      rw [← hlm] at h7
      have h8 : xencF ch t0 D nb l = fronts ch t0 D := by unfold xencF; rw [if_pos hm0]
      rw [h8]
      exact ⟨h7.1, h7.2.imp id fun ⟨g, cp, cur, k1, k2, k3⟩ => ⟨g, cp, cur, k1, by have := Below.size HX1.out; omega, k3⟩⟩
    have HBF : Ext w0 w6 := Ext.trans (Ext.trans HX1.out HX.out) h6
    rw [hch.out] at HOF
    replace HOF := hideit HOF
    replace HBF := hideit HBF
    clear h6 HO HX hst hvA
    go_wp2
    refine bodyPost_ret (results_tmp2 Tryz.results15 _ _ _) rfl ?_
    exact ⟨v, rfl, HOF.out, HBF.out⟩
  · obtain ⟨sh, hsh⟩ : ∃ sh, sh = l % 16 := ⟨_, rfl⟩
    have hst := steal_any w2.heap.size (16 * nb) sh cap a D (fronts ch t0 D) Tn (dX 135#128 Tn) b ch v X (by omega) (by omega) (by omega) (by omega) (by have := hD.out.carry (Ext.trans HX1.out HX.out); rwa [show 16 * nb + 16 + sh = l by omega]) HO.out hszY (fun Y hY => hbw.out Y (Ext.trans HX.out hY))
    rw [show 16 * nb + 16 + sh = l by omega] at hst
    replace hst := hideit hst
    refine wpList_call rfl (by simp [go_sem]) (hst.out.mono ?_)
    rintro e w6 ⟨v6, rfl, ho6, h6⟩
    refine ⟨_, rfl, ?_⟩
    simp only [zp0, zp1, zp2, zp3]
    have HOF : OwnB w0.heap.size 5 v6 l (yv (xencF ch t0 D nb l)) w6 := by
      have h8 : xencF ch t0 D nb l = stealF ch Tn (dX 135#128 Tn) (fronts ch t0 D) D (16 * nb) sh := by unfold xencF; rw [if_neg hm0, ← hTn.out, ← hsh]
      rw [h8]
      exact ⟨ho6.1, ho6.2.imp id fun ⟨g, cp, cur, k1, k2, k3⟩ => ⟨g, cp, cur, k1, by have := Below.size HX1.out; omega, k3⟩⟩
    have HBF : Ext w0 w6 := Below.trans (Ext.trans HX1.out HX.out) (Below.mono h6 (by have := Below.size HX1.out; omega))
    rw [hch.out] at HOF
    replace HOF := hideit HOF
    replace HBF := hideit HBF
    clear h6 ho6 HO HX hst hsh
    go_wp2
    refine bodyPost_ret (results_tmp2 Tryz.results15 _ _ _) rfl ?_
    exact ⟨v6, rfl, HOF.out, HBF.out⟩
set_option maxRecDepth 20000 in
set_option maxHeartbeats 4000000 in
theorem xdec_any (q c1 c2 r l cap nb : Nat) (S1 S2 : Nat → BitVec 8) (hr : 1 ≤ r) (hr2 : r ≤ 14) (u : BitVec 64) (a : Addr) (D : Nat → BitVec 8) (w : World) (hP : PairAt q c1 c2 r S1 S2 w) (hl1 : 16 ≤ l) (hl2 : l ≤ 65536) (hcap : l ≤ cap) (hD : LieAt a l (yv D) w)
    (hnb : (l % 16 = 0 ∧ l = 16 * nb) ∨ (l % 16 ≠ 0 ∧ l = 16 * nb + 16 + l % 16)) :
    Calls Tryz.prog 25 #[.pointer (some ⟨q, 0, none⟩), .int .u64 (u.toNat : Int), .slice (some a) l cap] w fun e w' => ∃ v, e = .returned (.tuple #[v, .int .i64 0]) ∧ OwnB w.heap.size 5 v l (yv (xdecF (chF (decF S1 ubT twT r)) (tw0 S2 r u) D nb l)) w' ∧ Below w.heap.size w w' := by
  replace hD := hideit hD
  obtain ⟨t0, ht0⟩ : ∃ t0, t0 = tw0 S2 r u := ⟨_, rfl⟩
  have hfirst : Hid (∀ X, Ext w X → Calls Tryz.prog 36 #[.pointer (some ⟨q, 0, none⟩), .int .u64 (u.toNat : Int)] X fun e w' => e = .returned (.agg #[.int .u64 ((lo t0).toNat : Int), .int .u64 ((hi t0).toNat : Int)]) ∧ Below X.heap.size X w') := fun X hX => by rw [ht0]; exact first_anyA q c1 c2 r S1 S2 hr hr2 u X (hP.ext hX)
  obtain ⟨cF, hcF⟩ : ∃ cF, cF = (decF S1 ubT twT r) := ⟨_, rfl⟩
  have hci : Hid (∀ X, Ext w X → ∀ f, Calls Tryz.prog 51 #[.pointer (some ⟨c1, 0, none⟩), .agg (row 16 (yv f)).toArray] X fun e w' => e = .returned (.agg (row 16 (yv (cF f))).toArray) ∧ Below X.heap.size X w') := fun X hX f => by rw [hcF]; exact dec_any c1 r S1 bxT ubT twT f hr hr2 X (hP.ext hX).blocks
  rw [← hcF, ← ht0]
  have eq0 := hP.one
  replace ht0 := hideit ht0
  replace hcF := hideit hcF
  clear hP
  have i0 : ¬ (l : Int) < 16 := by omega
  replace hnb := hideit hnb
  have hmf : ∀ (fn : Fn) (first cap : Array Value) (w : World), (Instr.makeFunc fn first cap).run Tryz.prog w = .ok (.func fn first cap) w := fun _ _ _ _ => rfl
  obtain ⟨ch, hch⟩ : ∃ ch, ch = chF cF := ⟨_, rfl⟩
  go_enter Tryz.func25, Tryz.ntmps25
  go_upto_region 5 with (first | (go_at_call 32; refine (refusal_ok _ _ l cap hl1 hl2 _).mono ?_; rintro e w0 ⟨rfl, rfl⟩) | (go_at_call 33; refine (between_any 51 (.pointer (some ⟨c1, 0, none⟩)) _).mono ?_; rintro e w1 ⟨rfl, h1, h2⟩; have HC1 := hideit h1; have HX1 : Hid (Ext _ w1) := hideit h2; clear h1 h2))
  obtain ⟨b, hb⟩ : ∃ b, b = w0.heap.size := ⟨_, rfl⟩
  rw [← hb]
  rw [← hb] at HC1
  clear eq0 hmf
  have hbw : Hid (∀ X, Ext w1 X → ∀ t f, Calls Tryz.prog 59 #[.agg #[.int .u64 ((lo t).toNat : Int), .int .u64 ((hi t).toNat : Int)], .agg (row 16 (yv f)).toArray, .pointer (some ⟨b, 0, none⟩)] X fun e w' => e = .returned (.agg (row 16 (yv (ch t f))).toArray) ∧ Below X.heap.size X w') := fun X hX t f => by
    rw [hch]
    exact betw_any 51 enters14 (.pointer (some ⟨c1, 0, none⟩)) cF t f b X ((Below.cell hX (p := ⟨b, 0, none⟩) (World.block_lt_of_cell? w1 _ HC1.out)).trans HC1.out) (fun Y hY f => hci.out Y (Ext.trans (Ext.trans HX1.out hX) hY) f)
  have hw0b : w0.heap.size ≤ b := by omega
  have hsz1 : b < w1.heap.size := World.block_lt_of_cell? w1 _ HC1.out
  clear hci HC1 hb
  obtain ⟨Tn, hTn⟩ : ∃ Tn, Tn = dK 135#128 nb t0 := ⟨_, rfl⟩
  have heach : Hid (∀ X, Ext w1 X → Calls Tryz.prog 35 #[.slice (some a) l cap, .agg #[.int .u64 ((lo t0).toNat : Int), .int .u64 ((hi t0).toNat : Int)], betwV b] X fun e w' => ∃ v, e = .returned (.tuple #[v, .agg #[.int .u64 ((lo Tn).toNat : Int), .int .u64 ((hi Tn).toNat : Int)]]) ∧ OwnB X.heap.size 5 v (16 * nb) (yv (fronts ch t0 D)) w' ∧ Below X.heap.size X w') := fun X hX => by
    rw [hTn]
    exact each_any l cap nb a D t0 b ch X hl1 hl2 hcap (hD.out.carry (Ext.trans HX1.out hX)) hnb.out (fun Y hY => hbw.out Y (Ext.trans hX hY))
  replace hTn := hideit hTn
  replace hch := hideit hch
  go_upto_region 6 with (first | (go_at_call 36; refine (hfirst.out _ HX1.out).mono ?_; rintro e w2 ⟨rfl, h2⟩; have HX2 : Hid (Ext w1 w2) := hideit h2; clear h2) | (go_at_call 35; refine (heach.out _ HX2.out).mono ?_; rintro e w3 ⟨v, rfl, hO, h3⟩; have HO3 := hideit hO; have HX3 : Hid (Ext w2 w3) := hideit h3; clear h3 hO; obtain ⟨d, hd⟩ : ∃ d, d = w3.heap.size := ⟨_, rfl⟩; have HN4 : Hid (RowAt d 2 (hvA 0#128) (w3.alloc (.cells #[.int .u64 0, .int .u64 0] 77))) := hideit (by rw [hd]; exact RowAt.new w3 2 (hvA 0#128) 77)) | (rw [← hd]; refine wpList_store_mid rfl 77 (.tmp 11) (.tmp 32) rfl _ 0 (row 2 (hvA Tn)).toArray rfl rfl (by rw [row_size]; exact HN4.out.there) (by rw [row_size]; exact info80) (hv_one _) ?_))
  have HEx : Ext w3 (w3.alloc (.cells #[.int .u64 0, .int .u64 0] 77)) := (Below.refl _ _).alloc (Nat.le_refl _) _
  have HBu : But d (w3.alloc (.cells #[.int .u64 0, .int .u64 0] 77)) ((w3.alloc (.cells #[.int .u64 0, .int .u64 0] 77)).setCells d 0 (row 2 (hvA Tn))) := But.sets _ 0 _ (But.refl _ _)
  have hsz2 : w1.heap.size ≤ w2.heap.size := Below.size HX2.out
  have hsz3 : w2.heap.size ≤ w3.heap.size := Below.size HX3.out
  have hvd : v.ownBlock ≠ some d := fun h => by have := (HO3.out.lt d h).2; omega
  have HT5 := hideit (HN4.out.cells (g' := hvA Tn))
  have HO5 := hideit ((HO3.out.ext HEx).but HBu hvd)
  have HX5 : Hid (Ext w1 ((w3.alloc (.cells #[.int .u64 0, .int .u64 0] 77)).setCells d 0 (row 2 (hvA Tn)))) := hideit (Ext.but (Ext.trans (Ext.trans HX2.out HX3.out) HEx) HBu (by omega))
  have hdd : w3.heap.size ≤ d := by omega
  clear HN4 HEx HBu hd HO3 HX3 HX2 heach hfirst hvd
  generalize (w3.alloc (.cells #[.int .u64 0, .int .u64 0] 77)).setCells d 0 (row 2 (hvA Tn)) = Y at *
  simp only [Act.put]
  have e0 : ∀ k : Kept (Ext Y.drew), k.w.cell? ⟨d, 0, none⟩ = some (.int .u64 ((lo Tn).toNat : Int)) := fun k => (HT5.out.drew.carry k.ok).1 0 (by omega)
  have e1 : ∀ k : Kept (Ext Y.drew), k.w.cell? ⟨d, 1, none⟩ = some (.int .u64 ((hi Tn).toNat : Int)) := fun k => (HT5.out.drew.carry k.ok).1 1 (by omega)
  have hne := kept_ne Y.drew
  refine wp_region_late 6 (by kernel_rfl) (by kernel_rfl) (by decide) ?_
  simp only [List.take_succ_cons, List.take_zero, List.drop_succ_cons, List.drop_zero]
  refine wpStrong_run 3 rfl ?_
  simp only [List.take_succ_cons, List.take_zero, List.drop_succ_cons, List.drop_zero]
  repeat (go_big_quiet_step (fail))
  refine wpQuiet_nil ?_
  refine wpStrong_call rfl (fun X => by simp [go_sem]) (fun X _ => double_any Tn X) ?_
  simp only [zp0, zp1, zp2, zp3]
  refine wpStrong_run 2 rfl ?_
  simp only [List.take_succ_cons, List.take_zero, List.drop_succ_cons, List.drop_zero]
  repeat (go_big_quiet_step (fail))
  refine wpQuiet_nil ?_
  refine wpStrong_nil ?_
  intro X hX
  have hX' : Ext Y X := Ext.trans ((Below.refl _ _).drew) hX
  have HO := hideit (HO5.out.ext hX')
  have HX : Hid (Ext w1 X) := hideit (Ext.trans HX5.out hX')
  have hszY : w2.heap.size ≤ X.heap.size := by
    have h1 := (HO.out.2)
    have h2 := Below.size HX.out
    have h3 := Below.size HX5.out
    have h4 := Below.size hX'
    have h5 : d < Y.heap.size := HT5.out.2.2
    omega
  clear hne e0 e1 hX hX' HT5 HO5 HX5
  rcases hnb.out with ⟨hm0, hlm⟩ | ⟨hm0, hlm⟩
  · obtain ⟨va, vc, hvA⟩ : ∃ va vc, v = .slice va l vc := by
      rcases HO.out.2 with ⟨h, h0⟩ | ⟨g, cap, cur, h, _⟩
      · omega
      · rw [← hlm] at h; exact ⟨_, cap, h⟩
    have hst := hideit (steal_none l cap a (dX 135#128 Tn) Tn v vc va hvA hcap hl2 (betwV b) X)
    refine wpList_call rfl (by simp [go_sem]) (hst.out.mono ?_)
    rintro e w6 ⟨rfl, h6⟩
    refine ⟨_, rfl, ?_⟩
    simp only [zp0, zp1, zp2, zp3]
    have HOF : OwnB w0.heap.size 5 v l (yv (xdecF ch t0 D nb l)) w6 := by
      have h7 := HO.out.ext h6
      rw [← hlm] at h7
      have h8 : xdecF ch t0 D nb l = fronts ch t0 D := by unfold xdecF; rw [if_pos hm0]
      rw [h8]
      exact ⟨h7.1, h7.2.imp id fun ⟨g, cp, cur, k1, k2, k3⟩ => ⟨g, cp, cur, k1, by have := Below.size HX1.out; omega, k3⟩⟩
    have HBF : Ext w0 w6 := Ext.trans (Ext.trans HX1.out HX.out) h6
    rw [hch.out] at HOF
    replace HOF := hideit HOF
    replace HBF := hideit HBF
    clear h6 HO HX hst hvA
    go_wp2
    refine bodyPost_ret (results_tmp2 Tryz.results25 _ _ _) rfl ?_
    exact ⟨v, rfl, HOF.out, HBF.out⟩
  · obtain ⟨sh, hsh⟩ : ∃ sh, sh = l % 16 := ⟨_, rfl⟩
    have hst := steal_any w2.heap.size (16 * nb) sh cap a D (fronts ch t0 D) (dX 135#128 Tn) Tn b ch v X (by omega) (by omega) (by omega) (by omega) (by have := hD.out.carry (Ext.trans HX1.out HX.out); rwa [show 16 * nb + 16 + sh = l by omega]) HO.out hszY (fun Y hY => hbw.out Y (Ext.trans HX.out hY))
    rw [show 16 * nb + 16 + sh = l by omega] at hst
    replace hst := hideit hst
    refine wpList_call rfl (by simp [go_sem]) (hst.out.mono ?_)
    rintro e w6 ⟨v6, rfl, ho6, h6⟩
    refine ⟨_, rfl, ?_⟩
    simp only [zp0, zp1, zp2, zp3]
    have HOF : OwnB w0.heap.size 5 v6 l (yv (xdecF ch t0 D nb l)) w6 := by
      have h8 : xdecF ch t0 D nb l = stealF ch (dX 135#128 Tn) Tn (fronts ch t0 D) D (16 * nb) sh := by unfold xdecF; rw [if_neg hm0, ← hTn.out, ← hsh]
      rw [h8]
      exact ⟨ho6.1, ho6.2.imp id fun ⟨g, cp, cur, k1, k2, k3⟩ => ⟨g, cp, cur, k1, by have := Below.size HX1.out; omega, k3⟩⟩
    have HBF : Ext w0 w6 := Below.trans (Ext.trans HX1.out HX.out) (Below.mono h6 (by have := Below.size HX1.out; omega))
    rw [hch.out] at HOF
    replace HOF := hideit HOF
    replace HBF := hideit HBF
    clear h6 ho6 HO HX hst hsh
    go_wp2
    refine bodyPost_ret (results_tmp2 Tryz.results25 _ _ _) rfl ?_
    exact ⟨v6, rfl, HOF.out, HBF.out⟩
end Go.Proofs.YtfpfgbhdehbggaaGreatDoor
namespace Go.Proofs.YtfpfgbhdehbggaaGreatDoor
set_option maxRecDepth 20000
open Go.RowKit Go.BigFrame
set_option maxRecDepth 20000 in
set_option maxHeartbeats 4000000 in
theorem words4_any (c r cap : Nat) (K bx ub tw key : Nat → BitVec 8) (a : Addr) (w : World) (h : CipherAt c r K bx ub tw w) (hk : KeyAt a 16 key w) (hcap : 16 ≤ cap) :
    Calls Tryz.prog 101 #[.pointer (some ⟨c, 0, none⟩), .slice (some a) 16 cap] w fun e w' => e = .returned (.agg (row 240 (yv (wordsF 4 bx tw key))).toArray) ∧ Below w.heap.size w w' := by
  have hz := zero73
  have hcs : c < w.heap.size := h.2.2
  have hne : ¬ (c = w.heap.size) := by omega
  have HB := hideit h.box
  have HW := hideit h.twice
  have HK := hideit hk
  have HS : WordsAt w.heap.size w (fun j => if j < 4 * 0 then key j else 0#8) ((w.alloc (.cells (row 240 (yv fun _ => 0#8)).toArray 152)).alloc (.cells (row 240 (yv fun _ => 0#8)).toArray 152)) := by
    refine ⟨(RowAt.new w 240 (yv fun _ => 0#8) 152).alloc _, ?_, ((Below.refl _ _).alloc (Nat.le_refl _) _).alloc (by simp) _⟩
    have := RowAt.new (w.alloc (.cells (row 240 (yv fun _ => 0#8)).toArray 152)) 240 (yv fun _ => 0#8) 152
    simpa using this
  replace HS := hideit HS
  clear h hk
  go_enter Tryz.func101, Tryz.ntmps101
  go_wp2
  go_loopw [16] (fun i wr => ∃ n : Nat, n ≤ 4 ∧ i = .int .i64 n ∧ WordsAt w.heap.size w (fun j => if j < 4 * n then key j else 0#8) wr) (fun i _ => 4 - (intOf i).toNat)
  case atStart => exact ⟨0, by omega, rfl, HS.out⟩
  case round =>
    obtain ⟨n, hn, rfl, hT⟩ := hrel
    have HT := hideit hT
    clear hT HS
    by_cases hlt : n < 4
    · have i0 : (0 : Int) ≤ (n : Int) := by omega
      have i1 : (n : Int) < 60 := by omega
      have i2 : (4 * (n : Int)) ≤ 16 := by omega
      have i3 : (4 * (n : Int)) ≤ (cap : Int) := by omega
      have i4 : (n : Int) < 4 := by omega
      go_wp2
      have hne := kept_ne (wr).drew
      refine wp_region_late 7 (by kernel_rfl) (by kernel_rfl) (by decide) ?_
      simp only [List.take_succ_cons, List.take_zero, List.drop_succ_cons, List.drop_zero]
      refine wpStrong_run 7 rfl ?_
      simp only [List.take_succ_cons, List.take_zero, List.drop_succ_cons, List.drop_zero]
      repeat (go_big_quiet_step (fail))
      refine wpQuiet_nil ?_
      refine wpStrong_nil ?_
      intro X hX
      have HX := hideit (WordsAt.draw HT.out rfl hX)
      clear hX HT
      have HKX := hideit (HK.out.below HK.out.2 HX.out.2.2)
      refine wpList_copy_row rfl (.tmp 21) (.tmp 25) 25 25 rfl 5 Tryz.underlying25 info5A _ 240 _ HX.out.2.1 (n * 4) 4 4 (a.add (4 * n)) (16 - 4 * n) (cap - 4 * n) rfl rfl 4 (yv fun j => key (4 * n + j)) ((show min (16 - 4 * n) 4 = 4 by omega).symm) (fun j hj => by rw [Addr.add_add]; exact HKX.out.1 (4 * n + j) (by omega)) (by omega) (fun _ _ => rfl) ?_
      have HI := hideit (WordsAt.copy key n 4 (by omega) hlt HX.out)
      clear HX HKX
      generalize X.setCells (w.heap.size + 1) (n * 4) (row 4 (yv fun j => key (4 * n + j))) = V at *
      go_wp2
      go_roundw
      case rel =>
        first | exact ⟨(n + 1 : Nat), by omega, by go_num, HI.out⟩ | ((repeat apply Exists.intro); exact ⟨⟨n + 1, by omega, by go_num, HI.out⟩, rfl⟩)
      case measure => simp [intOf]; omega
    · obtain rfl : n = 4 := by omega
      replace HT : Hid (WordsAt w.heap.size w (wordK 4 bx tw key 0).1 wr) := HT
      go_wp2
      go_loopw [8, 9] (fun u i wr => ∃ q : Nat, q ≤ 40 ∧ i = .int .i64 ((q : Int) + 4) ∧ u = .int .u8 ((wordK 4 bx tw key q).2.toNat : Int) ∧ WordsAt w.heap.size w (wordK 4 bx tw key q).1 wr) (fun _ i _ => 200 - (intOf i).toNat)
      case atStart => exact ⟨0, by omega, rfl, rfl, HT.out⟩
      case round =>
        obtain ⟨q, hq, rfl, rfl, hT⟩ := hrel
        have HT2 := hideit hT
        clear hT HT
        by_cases hlt : q < 40
        · have HF : ∀ wd u : Nat → BitVec 8, True := fun _ _ => trivial
          obtain ⟨cq, hcq⟩ : ∃ cq, cq = (wordK 4 bx tw key q).2 := ⟨_, rfl⟩
          obtain ⟨S, hS⟩ : ∃ S, S = (wordK 4 bx tw key q).1 := ⟨_, rfl⟩
          rw [← hcq]
          rw [← hS] at HT2
          have HE0 : ∀ wd X, wordAt 4 bx (q + 4) S cq = wd → WordsAt w.heap.size w (partS 4 (q + 4) wd S 4) X → WordsAt w.heap.size w (wordK 4 bx tw key (q + 1)).1 X := fun wd X he hx => by
            subst he hcq hS; exact hx
          have HU0 : (wordK 4 bx tw key (q + 1)).2 = if (q + 4) % 4 = 0 then tw cq.toNat else cq := by subst hcq; rfl
          replace HE0 := hideit HE0
          replace HU0 := hideit HU0
          replace hcq := hideit hcq
          replace hS := hideit hS
          have i1 : (q : Int) < 40 := by omega
          have hz4 := zero63'
          obtain ⟨f, hf⟩ : ∃ f : Nat → BitVec 8, ∀ j, f j = S (4 * (q + 4 - 1) + j) := ⟨_, fun _ => rfl⟩
          have HRg : wr.rangeAt (w.heap.size + 1) ((q + 4 - 1) * 4) (row 4 (yv f)) := fun j v hvA => by
            obtain ⟨hj, rfl⟩ := row_some hvA
            rw [HT2.out.2.1.1 ((q + 4 - 1) * 4 + j) (by omega)]
            simp only [yv, hf, Nat.mul_comm (q + 4 - 1) 4]
          replace HRg := hideit HRg
          replace hf := hideit hf
          obtain ⟨b, hbe⟩ : ∃ b, b = wr.heap.size := ⟨_, rfl⟩
          have hb : w.heap.size + 2 ≤ b := by have := HT2.out.2.1.2.2; omega
          have HN : RowAt b 4 (yv fun _ => 0#8) (wr.alloc (.cells (row 4 (yv fun _ => 0#8)).toArray 129)) := by rw [hbe]; exact RowAt.new wr 4 (yv fun _ => 0#8) 129
          replace HN := hideit HN
          go_upto_region 13 with (first | (refine wpList_load_mid rfl 129 (.tmp 38) rfl _ ((q + 4 - 1) * 4) rfl (row 4 (yv f)) _ HRg.out Tryz.underlying129 rfl (by rw [row_length]; exact info63) ?_) | (rw [← hbe]; refine wpList_store_mid rfl 129 (.tmp 10) (.tmp 39) rfl _ 0 (row 4 (yv f)).toArray rfl rfl (by rw [row_size]; exact HN.out.there) (by rw [row_size]; exact info63) (row_one fun _ _ => rfl) ?_))
          have HY : WordsAt w.heap.size w S ((wr.alloc (.cells (row 4 (yv fun _ => 0#8)).toArray 129)).setCells b 0 (row 4 (yv f))) := (HT2.out.ext rfl ((Below.refl _ _).alloc (Nat.le_refl _) _)).other b hb _ _
          replace HY := hideit HY
          have HR := hideit (HN.out.cells (g' := yv f))
          clear HN HRg HT2 hbe
          generalize (wr.alloc (.cells (row 4 (yv fun _ => 0#8)).toArray 129)).setCells b 0 (row 4 (yv f)) = Y at *
          have hcb : ¬ (c = b) := by omega
          have hcb2 : ¬ (b = c) := by omega
          have e0 : Y.cell? ⟨b, 0, none⟩ = some (.int .u8 ((f 0).toNat : Int)) := HR.out.1 0 (by omega)
          have e1 : Y.cell? ⟨b, 1, none⟩ = some (.int .u8 ((f 1).toNat : Int)) := HR.out.1 1 (by omega)
          have e2 : Y.cell? ⟨b, 2, none⟩ = some (.int .u8 ((f 2).toNat : Int)) := HR.out.1 2 (by omega)
          have e3 : Y.cell? ⟨b, 3, none⟩ = some (.int .u8 ((f 3).toNat : Int)) := HR.out.1 3 (by omega)
          obtain ⟨z, hz0⟩ : ∃ z : Nat, z = (q + 4) % 4 := ⟨_, rfl⟩
          have ht : ((q : Int) + 4).tmod 4 = (z : Int) := by
            rw [Int.tmod_eq_emod_of_nonneg (by omega), hz0]
            omega
          replace hz0 := hideit hz0
          by_cases hzz : z = 0
          · subst hzz
            have HTw := hideit ((HW.out.below HW.out.2 HY.out.2.2).1 cq.toNat cq.isLt)
            have HBx := hideit (HB.out.below HB.out.2 HY.out.2.2)
            obtain ⟨g, hg⟩ : ∃ g : Nat → BitVec 8, ∀ j, g j = f ((j + 1) % 4) := ⟨_, fun _ => rfl⟩
            have hgb : (Value.agg (((((row 4 (yv fun _ => 0#8)).set 0 (.int .u8 ((f 1).toNat : Int))).set 1 (.int .u8 ((f 2).toNat : Int))).set 2 (.int .u8 ((f 3).toNat : Int))).set 3 (.int .u8 ((f 0).toNat : Int))).toArray) = .agg (row 4 (yv g)).toArray := by
              have h0 := hg 0
              have h1 := hg 1
              have h2 := hg 2
              have h3 := hg 3
              simp only [Nat.reduceMod, Nat.reduceAdd] at h0 h1 h2 h3
              rw [show row 4 (yv g) = [yv g 0, yv g 1, yv g 2, yv g 3] from rfl, show (row 4 (yv fun _ => 0#8)) = [yv (fun _ => 0#8) 0, yv (fun _ => 0#8) 1, yv (fun _ => 0#8) 2, yv (fun _ => 0#8) 3] from rfl]
              simp [yv, h0, h1, h2, h3]
            replace hg := hideit hg
            replace hgb := hideit hgb
            go_upto_region 15 with (first | (go_at_call 116; rw [hgb.out]; refine (boxWord_any g bx c _ HBx.out).mono ?_; rintro e w2 ⟨rfl, hw2⟩; have HR2 := hideit (HR.out.carry hw2); have HY2 := hideit (HY.out.ext rfl hw2); clear hw2) | (refine wpList_store_mid rfl 129 (.tmp 10) (.tmp 55) rfl _ 0 (row 4 (yv (replF bx g))).toArray rfl rfl (by rw [row_size]; exact HR2.out.there) (by rw [row_size]; exact info63) (row_one fun _ _ => rfl) ?_))
            clear HY HR HTw e0 e1 e2 e3
            have HY := hideit (HY2.out.other b hb (row 4 (yv (replF bx g))) 0)
            have HR := hideit (HR2.out.cells (g' := yv (replF bx g)))
            clear HY2 HR2
            generalize w2.setCells b 0 (row 4 (yv (replF bx g))) = Y2 at *
            have e0 : Y2.cell? ⟨b, 0, none⟩ = some (.int .u8 ((replF bx g 0).toNat : Int)) := HR.out.1 0 (by omega)
            have g0 := HR.out.2.1 0 (by omega)
            have bq := cq.isLt
            have bq2 : (cq.toNat : Int) < 256 := by omega
            have e4 : Y2.cell? ⟨c, 753 + cq.toNat, none⟩ = some (.int .u8 ((tw cq.toNat).toNat : Int)) := (HW.out.below HW.out.2 HY.out.2.2).1 cq.toNat cq.isLt
            have o2 : bits .xor .u8 ((replF bx g 0).toNat : Int) (cq.toNat : Int) = ((xB (replF bx g 0) cq).toNat : Int) := xB_fact _ _
            go_upto_region 19 with fail
            have HY3 := hideit (HY.out.otherCell b 0 hb (.int .u8 ((xB (replF bx g 0) cq).toNat : Int)))
            have HR3 := hideit ((HR.out.set 0 (.int .u8 ((xB (replF bx g 0) cq).toNat : Int))).congr (g' := yv (wordAt 4 bx (q + 4) S cq)) (fun j hj => by
                simp only [yv, wordAt, if_pos hz0.out.symm]
                by_cases hj0 : j = 0
                · subst hj0; rw [if_pos rfl, if_pos rfl]; simp only [replF, hg.out, hf.out]; (try simp only [Nat.reduceMod, Nat.zero_add])
                · rw [if_neg hj0, if_neg hj0]; simp only [replF, hg.out, hf.out]))
            clear HY HR e0 g0 e4 o2
            generalize Y2.setCell ⟨b, 0, none⟩ (.int .u8 ((xB (replF bx g 0) cq).toNat : Int)) = Y at *
            have HY := HY3
            have HR := HR3
            clear HY3 HR3
            generalize hwd : wordAt 4 bx (q + 4) S cq = wd at *
            have HE : ∀ X, WordsAt w.heap.size w (partS 4 (q + 4) wd S 4) X → WordsAt w.heap.size w (wordK 4 bx tw key (q + 1)).1 X := fun X hx => HE0.out wd X rfl hx
            have HU : Value.int .u8 ((tw cq.toNat).toNat : Int) = .int .u8 ((wordK 4 bx tw key (q + 1)).2.toNat : Int) := by rw [HU0.out, if_pos hz0.out.symm]
            replace HU := hideit HU
            clear HE0 HU0 hwd
            go_upto_region 20 with fail
            have hP := hideit (partS_zero 4 (q + 4) (wd) S)
            go_loopw [78] (fun i wr => ∃ n : Nat, n ≤ 4 ∧ i = .int .i64 n ∧ WordsAt w.heap.size w (partS 4 (q + 4) (wd) S n) wr ∧ RowAt b 4 (yv (wd)) wr) (fun i _ => 4 - (intOf i).toNat)
            case atStart => exact ⟨0, by omega, rfl, by rw [hP.out]; exact HY.out, HR.out⟩
            case round =>
              obtain ⟨n, hn, rfl, hT⟩ := hrel
              have HV := hideit hT
              clear hT HY HR hP
              by_cases hlt4 : n < 4
              · have n0 : (0 : Int) ≤ (n : Int) := by omega
                have n1 : (n : Int) < 4 := by omega
                have eS : (q + 4 - 4) * 4 + n = q * 4 + n := by omega
                go_upto_region 22 with fail
                have e1 : ∀ k : Kept (Ext wr.drew), k.w.cell? ⟨w.heap.size + 1, (q + 4 - 4) * 4 + n, none⟩ = some (.int .u8 ((S (4 * (q + 4) + n - 4 * 4)).toNat : Int)) := fun k => by
                  have h1 := (HV.out.1.2.1.drew.carry k.ok).1 ((q + 4 - 4) * 4 + n) (by omega)
                  rw [h1]
                  simp only [yv]
                  rw [partS_low _ _ _ _ _ _ (by omega), show (q + 4 - 4) * 4 + n = 4 * (q + 4) + n - 4 * 4 by omega]
                have e1' := e1
                rw [eS] at e1'
                have e2 : ∀ k : Kept (Ext wr.drew), k.w.cell? ⟨b, n, none⟩ = some (.int .u8 (((wd) n).toNat : Int)) := fun k => (HV.out.2.drew.carry k.ok).1 n hlt4
                have o1 : bits .xor .u8 ((S (4 * (q + 4) + n - 4 * 4)).toNat : Int) (((wd) n).toNat : Int) = ((xB (S (4 * (q + 4) + n - 4 * 4)) ((wd) n)).toNat : Int) := xB_fact _ _
                have hne := kept_ne (wr).drew
                refine wp_region_late 15 (by kernel_rfl) (by kernel_rfl) (by decide) ?_
                simp only [List.take_succ_cons, List.take_zero, List.drop_succ_cons, List.drop_zero]
                refine wpStrong_run 15 rfl ?_
                simp only [List.take_succ_cons, List.take_zero, List.drop_succ_cons, List.drop_zero]
                repeat (go_big_quiet_step (fail))
                refine wpQuiet_nil ?_
                refine wpStrong_nil ?_
                intro X hX
                have HX := hideit (WordsAt.draw HV.out.1 rfl hX)
                have HXR := hideit (HV.out.2.drew.carry hX)
                clear hX e1 e2 e1'
                have e3 : X.cell? ⟨w.heap.size + 1, (q + 4) * 4 + n, none⟩ = some _ := HX.out.2.1.1 ((q + 4) * 4 + n) (by omega)
                have g3 := HX.out.2.1.2.1 ((q + 4) * 4 + n) (by omega)
                go_wp2
                go_roundw
                case rel =>
                  have HI : WordsAt w.heap.size w (partS 4 (q + 4) (wd) S (n + 1)) (X.setCell ⟨w.heap.size + 1, (q + 4) * 4 + n, none⟩ (.int .u8 ((xB (S (4 * (q + 4) + n - 4 * 4)) ((wd) n)).toNat : Int))) := by
                    rw [Nat.mul_comm (q + 4) 4]
                    exact HX.out.byte
                  have HJ : RowAt b 4 (yv (wd)) (X.setCell ⟨w.heap.size + 1, (q + 4) * 4 + n, none⟩ (.int .u8 ((xB (S (4 * (q + 4) + n - 4 * 4)) ((wd) n)).toNat : Int))) := HXR.out.other _ _ (by show w.heap.size + 1 ≠ b; omega)
                  first | exact ⟨(n + 1 : Nat), by omega, by go_num, HI, HJ⟩ | ((repeat apply Exists.intro); exact ⟨⟨n + 1, by omega, by go_num, HI, HJ⟩, rfl⟩)
                case measure => simp [intOf]; omega
              · obtain rfl : n = 4 := by omega
                go_wp2
                go_roundw
                case rel =>
                  have HI : WordsAt w.heap.size w (wordK 4 bx tw key (q + 1)).1 wr := HE _ HV.out.1
                  first | exact ⟨(q + 1 : Nat), by omega, by go_num, HU.out, HI⟩ | ((repeat apply Exists.intro); exact ⟨⟨q + 1, by omega, by go_num, HU.out, HI⟩, rfl⟩)
                case measure => simp [intOf]; omega
          · have hzi : ¬ ((z : Int) = 0) := by omega
            have hz1 : ¬ ((q + 4) % 4 = 0) := by rw [← hz0.out]; exact hzz
            go_upto_region 19 with fail
            have HE : ∀ X, WordsAt w.heap.size w (partS 4 (q + 4) f S 4) X → WordsAt w.heap.size w (wordK 4 bx tw key (q + 1)).1 X := fun X hx => HE0.out f X (by
                funext j
                simp only [wordAt, if_neg hz1, hf.out]
                rw [if_neg (by omega)]) hx
            have HU : Value.int .u8 (cq.toNat : Int) = .int .u8 ((wordK 4 bx tw key (q + 1)).2.toNat : Int) := by rw [HU0.out, if_neg hz1]
            replace HU := hideit HU
            clear HE0 HU0 e0 e1 e2 e3
            go_upto_region 20 with fail
            have hP := hideit (partS_zero 4 (q + 4) (f) S)
            go_loopw [78] (fun i wr => ∃ n : Nat, n ≤ 4 ∧ i = .int .i64 n ∧ WordsAt w.heap.size w (partS 4 (q + 4) (f) S n) wr ∧ RowAt b 4 (yv (f)) wr) (fun i _ => 4 - (intOf i).toNat)
            case atStart => exact ⟨0, by omega, rfl, by rw [hP.out]; exact HY.out, HR.out⟩
            case round =>
              obtain ⟨n, hn, rfl, hT⟩ := hrel
              have HV := hideit hT
              clear hT HY HR hP
              by_cases hlt4 : n < 4
              · have n0 : (0 : Int) ≤ (n : Int) := by omega
                have n1 : (n : Int) < 4 := by omega
                have eS : (q + 4 - 4) * 4 + n = q * 4 + n := by omega
                go_upto_region 22 with fail
                have e1 : ∀ k : Kept (Ext wr.drew), k.w.cell? ⟨w.heap.size + 1, (q + 4 - 4) * 4 + n, none⟩ = some (.int .u8 ((S (4 * (q + 4) + n - 4 * 4)).toNat : Int)) := fun k => by
                  have h1 := (HV.out.1.2.1.drew.carry k.ok).1 ((q + 4 - 4) * 4 + n) (by omega)
                  rw [h1]
                  simp only [yv]
                  rw [partS_low _ _ _ _ _ _ (by omega), show (q + 4 - 4) * 4 + n = 4 * (q + 4) + n - 4 * 4 by omega]
                have e1' := e1
                rw [eS] at e1'
                have e2 : ∀ k : Kept (Ext wr.drew), k.w.cell? ⟨b, n, none⟩ = some (.int .u8 (((f) n).toNat : Int)) := fun k => (HV.out.2.drew.carry k.ok).1 n hlt4
                have o1 : bits .xor .u8 ((S (4 * (q + 4) + n - 4 * 4)).toNat : Int) (((f) n).toNat : Int) = ((xB (S (4 * (q + 4) + n - 4 * 4)) ((f) n)).toNat : Int) := xB_fact _ _
                have hne := kept_ne (wr).drew
                refine wp_region_late 15 (by kernel_rfl) (by kernel_rfl) (by decide) ?_
                simp only [List.take_succ_cons, List.take_zero, List.drop_succ_cons, List.drop_zero]
                refine wpStrong_run 15 rfl ?_
                simp only [List.take_succ_cons, List.take_zero, List.drop_succ_cons, List.drop_zero]
                repeat (go_big_quiet_step (fail))
                refine wpQuiet_nil ?_
                refine wpStrong_nil ?_
                intro X hX
                have HX := hideit (WordsAt.draw HV.out.1 rfl hX)
                have HXR := hideit (HV.out.2.drew.carry hX)
                clear hX e1 e2 e1'
                have e3 : X.cell? ⟨w.heap.size + 1, (q + 4) * 4 + n, none⟩ = some _ := HX.out.2.1.1 ((q + 4) * 4 + n) (by omega)
                have g3 := HX.out.2.1.2.1 ((q + 4) * 4 + n) (by omega)
                go_wp2
                go_roundw
                case rel =>
                  have HI : WordsAt w.heap.size w (partS 4 (q + 4) (f) S (n + 1)) (X.setCell ⟨w.heap.size + 1, (q + 4) * 4 + n, none⟩ (.int .u8 ((xB (S (4 * (q + 4) + n - 4 * 4)) ((f) n)).toNat : Int))) := by
                    rw [Nat.mul_comm (q + 4) 4]
                    exact HX.out.byte
                  have HJ : RowAt b 4 (yv (f)) (X.setCell ⟨w.heap.size + 1, (q + 4) * 4 + n, none⟩ (.int .u8 ((xB (S (4 * (q + 4) + n - 4 * 4)) ((f) n)).toNat : Int))) := HXR.out.other _ _ (by show w.heap.size + 1 ≠ b; omega)
                  first | exact ⟨(n + 1 : Nat), by omega, by go_num, HI, HJ⟩ | ((repeat apply Exists.intro); exact ⟨⟨n + 1, by omega, by go_num, HI, HJ⟩, rfl⟩)
                case measure => simp [intOf]; omega
              · obtain rfl : n = 4 := by omega
                go_wp2
                go_roundw
                case rel =>
                  have HI : WordsAt w.heap.size w (wordK 4 bx tw key (q + 1)).1 wr := HE _ HV.out.1
                  first | exact ⟨(q + 1 : Nat), by omega, by go_num, HU.out, HI⟩ | ((repeat apply Exists.intro); exact ⟨⟨q + 1, by omega, by go_num, HU.out, HI⟩, rfl⟩)
                case measure => simp [intOf]; omega
        · obtain rfl : q = 40 := by omega
          have hwf : (wordK 4 bx tw key 40).1 = wordsF 4 bx tw key := rfl
          rw [hwf] at HT2
          clear hwf
          generalize (wordK 4 bx tw key 40).2 = cq at *
          go_wp2_with (first | (refine wpList_load_mid rfl 152 (.tmp 5) rfl _ 0 rfl (row 240 (yv (wordsF 4 bx tw key))) _ HT2.out.2.1.range Tryz.underlying152 rfl (by rw [row_length]; exact info73) ?_) | (refine wpList_store_mid rfl 152 (.tmp 4) (.tmp 97) rfl _ 0 (row 240 (yv (wordsF 4 bx tw key))).toArray rfl rfl (by rw [row_size]; exact HT2.out.1.there) (by rw [row_size]; exact info73) (row_one fun _ _ => rfl) ?_))
          exact bodyPost_ret (ret_row Tryz.results101 rfl (HT2.out.1.cells (g' := yv (wordsF 4 bx tw key))) Tryz.underlying152 rfl info73) rfl ⟨rfl, below_setCells _ (Nat.le_refl _) _ _ _ HT2.out.2.2⟩
end Go.Proofs.YtfpfgbhdehbggaaGreatDoor
namespace Go.Proofs.YtfpfgbhdehbggaaGreatDoor
set_option maxRecDepth 20000
open Go.RowKit Go.BigFrame
end Go.Proofs.YtfpfgbhdehbggaaGreatDoor
