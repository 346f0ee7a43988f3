/-
  The document's pairs of ciphers, and their tweaks. The document's change of a block at a place.
-/
import Derived.Test.YtkoodgfadedeoaaQ25
import Derived.Test.YtkoodgfadedeoaaQ31
import Derived.Test.YtkoodgfadedeoaaQ32
import Derived.Test.YtkoodgfadedeoaaQ33
namespace Go.Proofs.Ytkoodgfadedeoaa
open Go.RowKit Go.BigFrame
theorem sched_words' (k : Nat) (key : Nat → BitVec 8) (j : Nat) (hj : j < 16 * (k + 7)) : schedK k key j = wordsF k bxT twT key j := by
  unfold schedK keyP
  rw [if_pos hj]
theorem keysTo' {c kb cap N : Nat} {K K' bx ub : Nat → BitVec 8} {X : World} (h : RCip c kb cap N K bx ub X) (e : ∀ j, j < 16 * N → K' j = K j) : RCip c kb cap N K' bx ub X :=
  ⟨h.head, h.box, h.unbox, fun j hj => by rw [e j hj]; exact h.keys j hj, h.inC, h.inK⟩
/-- a pair of the document's in memory, in blocks at or behind base -/
def RPairAt (base q r : Nat) (S1 S2 : Nat → BitVec 8) (w : World) : Prop := ∃ x1 kb1 cp1 x2 kb2 cp2, w.cell? ⟨q, 0, none⟩ = some (.pointer (some ⟨x1, 0, none⟩)) ∧ w.cell? ⟨q, 1, none⟩ = some (.pointer (some ⟨x2, 0, none⟩)) ∧
  RCip x1 kb1 cp1 (r + 1) S1 bxT ubT w ∧ RCip x2 kb2 cp2 (r + 1) S2 bxT ubT w ∧ q < w.heap.size ∧ base ≤ q ∧ base ≤ x1 ∧ base ≤ kb1 ∧ base ≤ x2 ∧ base ≤ kb2
theorem RPairAt.ext {base q r : Nat} {S1 S2 : Nat → BitVec 8} {w X : World} (h : RPairAt base q r S1 S2 w) (k : Ext w X) : RPairAt base q r S1 S2 X := by
  obtain ⟨x1, kb1, cp1, x2, kb2, cp2, h1, h2, h3, h4, h5, h6⟩ := h
  exact ⟨x1, kb1, cp1, x2, kb2, cp2, (Below.cell k (p := ⟨q, 0, none⟩) h5).trans h1, (Below.cell k (p := ⟨q, 1, none⟩) h5).trans h2, h3.carry k, h4.carry k, Nat.lt_of_lt_of_le h5 (Below.size k), h6⟩
/-- what the document's ciphers do to a block -/
theorem renc_as (c kb cap r : Nat) (S f : Nat → BitVec 8) (hr : 1 ≤ r) (hr2 : r ≤ 14) (w : World) (h : RCip c kb cap (r + 1) S bxT ubT w) :
    Calls Try.prog 13 #[.pointer (some ⟨c, 0, none⟩), .agg (row 16 (yv f)).toArray] w fun e w' => e = .returned (.agg (row 16 (yv (encF S bxT twT r f))).toArray) ∧ Below w.heap.size w w' := by
  have h1 := renc_any c kb cap (r + 1) S bxT ubT f (by omega) (by omega) w h
  rwa [show row 16 (yv (rencK (r + 1) S bxT f (r + 1 - 1))) = row 16 (yv (encF S bxT twT r f)) from row_ext fun j hj => by simp only [yv]; rw [renc_enc S f r hr j hj]] at h1
theorem rdec_as (c kb cap r : Nat) (S f : Nat → BitVec 8) (hr : 1 ≤ r) (hr2 : r ≤ 14) (w : World) (h : RCip c kb cap (r + 1) S bxT ubT w) :
    Calls Try.prog 15 #[.pointer (some ⟨c, 0, none⟩), .agg (row 16 (yv f)).toArray] w fun e w' => e = .returned (.agg (row 16 (yv (decF S ubT twT r f))).toArray) ∧ Below w.heap.size w w' := by
  have h1 := rdec_any c kb cap (r + 1) S bxT ubT f (by omega) (by omega) w h
  rwa [show row 16 (yv (addF (rdecK (r + 1) S ubT f (r + 1 - 1)) (kF S 0))) = row 16 (yv (decF S ubT twT r f)) from row_ext fun j hj => by simp only [yv]; rw [rdec_dec S f r hr j hj]] at h1
set_option maxRecDepth 20000 in
set_option maxHeartbeats 2000000 in
theorem rxnew4_any (a : Addr) (cap : Nat) (key : Nat → BitVec 8) (w : World) (hk : LieAt a 32 (yv key) w) (hcap : 32 ≤ cap) :
    Calls Try.prog 19 #[.slice (some a) 32 cap] w fun e w' => ∃ q, e = .returned (.tuple #[.pointer (some ⟨q, 0, none⟩), .int .i64 0]) ∧ RPairAt w.heap.size q 10 (schedK 4 key) (schedK 4 fun j => key (16 + j)) w' ∧ Below w.heap.size w w' := by
  have i1 : (16 : Int) ≤ (cap : Int) := by omega
  have i2 : ¬ cap = 16 := by omega
  have i3 : 16 ≤ cap := by omega
  obtain ⟨S1, hS1⟩ : ∃ S1, S1 = schedK 4 key := ⟨_, rfl⟩
  obtain ⟨S2, hS2⟩ : ∃ S2, S2 = schedK 4 (fun j => key (16 + j)) := ⟨_, rfl⟩
  obtain ⟨sa, hsa⟩ : ∃ sa : Addr, sa = a.add 16 := ⟨_, rfl⟩
  have hn1 : Calls Try.prog 10 #[.slice (some a) 16 cap] w fun e w' => ∃ c kb cp, e = .returned (.tuple #[.pointer (some ⟨c, 0, none⟩), .int .i64 0]) ∧ RCip c kb cp 11 S1 bxT ubT w' ∧ Below w.heap.size w w' ∧ w.heap.size ≤ c ∧ w.heap.size ≤ kb := by
    rw [hS1]
    exact (rnew4_any a cap key w ⟨fun j hj => hk.1 j (by omega), hk.2⟩).mono fun e w' ⟨c, kb, cp, h4, h5, h6⟩ => ⟨c, kb, cp, h4, keysTo' h5 fun j hj => sched_words' 4 key j hj, h6⟩
  have hn2 : ∀ X, Ext w X → Calls Try.prog 10 #[.slice (some sa) 16 (cap - 16)] X fun e w' => ∃ c kb cp, e = .returned (.tuple #[.pointer (some ⟨c, 0, none⟩), .int .i64 0]) ∧ RCip c kb cp 11 S2 bxT ubT w' ∧ Below X.heap.size X w' ∧ X.heap.size ≤ c ∧ X.heap.size ≤ kb := fun X hX => by
    rw [hS2]
    have h1 := hk.carry hX
    refine (rnew4_any sa (cap - 16) (fun j => key (16 + j)) X ⟨fun j hj => ?_, by rw [hsa, add_block]; exact h1.2⟩).mono fun e w' ⟨c, kb, cp, h4, h5, h6⟩ => ⟨c, kb, cp, h4, keysTo' h5 fun j hj => sched_words' 4 _ j hj, h6⟩
    rw [hsa, add_add', h1.1 (16 + j) (by omega)]
    rfl
  replace hn1 := hideit hn1
  replace hn2 := hideit hn2
  rw [← hS1, ← hS2]
  replace hS1 := hideit hS1
  replace hS2 := hideit hS2
  clear hk
  have hsa' : (⟨a.block, a.off + 16, none⟩ : Addr) = sa := by rw [hsa]; rfl
  clear hsa
  go_enter Try.func19, Try.ntmps19
  go_upto_region 4 with (go_at_call 10; refine hn1.out.mono ?_; rintro e w1 ⟨x1, kb1, cp1, rfl, h1, h2, h3, h4⟩; have HC1 := hideit h1; have HX1 : Hid (Ext w w1) := hideit h2; clear h1 h2)
  have hn2' := hideit (hn2.out w1 HX1.out)
  go_upto_region 5 with (go_at_call 10; refine hn2'.out.mono ?_; rintro e w2 ⟨x2, kb2, cp2, rfl, h1, h2, h5, h6⟩; have HC2 := hideit h1; have HX2 : Hid (Ext w1 w2) := hideit h2; clear h1 h2)
  have hsw := Below.size HX1.out
  have hsw2 := Below.size HX2.out
  clear hn1 hn2 hn2'
  obtain ⟨W, hW⟩ : ∃ W, W = w2.alloc (.cells #[.pointer (some ⟨x1, 0, none⟩), .pointer (some ⟨x2, 0, none⟩)] 74) := ⟨_, rfl⟩
  have HEx : Ext w2 W := by rw [hW]; exact (Below.refl _ _).alloc (Nat.le_refl _) _
  have HP : RPairAt w.heap.size w2.heap.size 10 S1 S2 W := ⟨x1, kb1, cp1, x2, kb2, cp2, by rw [hW]; simp [go_sem], by rw [hW]; simp [go_sem], RCip.carry (RCip.carry HC1.out HX2.out) HEx, RCip.carry HC2.out HEx, by rw [hW]; simp, by omega, by omega, by omega, by omega, by omega⟩
  have HB : Ext w W := Ext.trans (Ext.trans HX1.out HX2.out) HEx
  replace HP := hideit HP
  replace HB := hideit HB
  replace hW := hideit hW
  clear HEx HC1 HC2 HX1 HX2
  go_wp2
  refine bodyPost_ret (results_tmp2 Try.results19 _ _ _) rfl ?_
  rw [← hW.out]
  exact ⟨_, rfl, HP.out, HB.out⟩
set_option maxRecDepth 20000 in
set_option maxHeartbeats 2000000 in
theorem rxnew8_any (a : Addr) (cap : Nat) (key : Nat → BitVec 8) (w : World) (hk : LieAt a 64 (yv key) w) (hcap : 64 ≤ cap) :
    Calls Try.prog 19 #[.slice (some a) 64 cap] w fun e w' => ∃ q, e = .returned (.tuple #[.pointer (some ⟨q, 0, none⟩), .int .i64 0]) ∧ RPairAt w.heap.size q 14 (schedK 8 key) (schedK 8 fun j => key (32 + j)) w' ∧ Below w.heap.size w w' := by
  have i1 : (32 : Int) ≤ (cap : Int) := by omega
  have i2 : ¬ cap = 32 := by omega
  have i3 : 32 ≤ cap := by omega
  obtain ⟨S1, hS1⟩ : ∃ S1, S1 = schedK 8 key := ⟨_, rfl⟩
  obtain ⟨S2, hS2⟩ : ∃ S2, S2 = schedK 8 (fun j => key (32 + j)) := ⟨_, rfl⟩
  obtain ⟨sa, hsa⟩ : ∃ sa : Addr, sa = a.add 32 := ⟨_, rfl⟩
  have hn1 : Calls Try.prog 10 #[.slice (some a) 32 cap] w fun e w' => ∃ c kb cp, e = .returned (.tuple #[.pointer (some ⟨c, 0, none⟩), .int .i64 0]) ∧ RCip c kb cp 15 S1 bxT ubT w' ∧ Below w.heap.size w w' ∧ w.heap.size ≤ c ∧ w.heap.size ≤ kb := by
    rw [hS1]
    exact (rnew8_any a cap key w ⟨fun j hj => hk.1 j (by omega), hk.2⟩).mono fun e w' ⟨c, kb, cp, h4, h5, h6⟩ => ⟨c, kb, cp, h4, keysTo' h5 fun j hj => sched_words' 8 key j hj, h6⟩
  have hn2 : ∀ X, Ext w X → Calls Try.prog 10 #[.slice (some sa) 32 (cap - 32)] X fun e w' => ∃ c kb cp, e = .returned (.tuple #[.pointer (some ⟨c, 0, none⟩), .int .i64 0]) ∧ RCip c kb cp 15 S2 bxT ubT w' ∧ Below X.heap.size X w' ∧ X.heap.size ≤ c ∧ X.heap.size ≤ kb := fun X hX => by
    rw [hS2]
    have h1 := hk.carry hX
    refine (rnew8_any sa (cap - 32) (fun j => key (32 + j)) X ⟨fun j hj => ?_, by rw [hsa, add_block]; exact h1.2⟩).mono fun e w' ⟨c, kb, cp, h4, h5, h6⟩ => ⟨c, kb, cp, h4, keysTo' h5 fun j hj => sched_words' 8 _ j hj, h6⟩
    rw [hsa, add_add', h1.1 (32 + j) (by omega)]
    rfl
  replace hn1 := hideit hn1
  replace hn2 := hideit hn2
  rw [← hS1, ← hS2]
  replace hS1 := hideit hS1
  replace hS2 := hideit hS2
  clear hk
  have hsa' : (⟨a.block, a.off + 32, none⟩ : Addr) = sa := by rw [hsa]; rfl
  clear hsa
  go_enter Try.func19, Try.ntmps19
  go_upto_region 4 with (go_at_call 10; refine hn1.out.mono ?_; rintro e w1 ⟨x1, kb1, cp1, rfl, h1, h2, h3, h4⟩; have HC1 := hideit h1; have HX1 : Hid (Ext w w1) := hideit h2; clear h1 h2)
  have hn2' := hideit (hn2.out w1 HX1.out)
  go_upto_region 5 with (go_at_call 10; refine hn2'.out.mono ?_; rintro e w2 ⟨x2, kb2, cp2, rfl, h1, h2, h5, h6⟩; have HC2 := hideit h1; have HX2 : Hid (Ext w1 w2) := hideit h2; clear h1 h2)
  have hsw := Below.size HX1.out
  have hsw2 := Below.size HX2.out
  clear hn1 hn2 hn2'
  obtain ⟨W, hW⟩ : ∃ W, W = w2.alloc (.cells #[.pointer (some ⟨x1, 0, none⟩), .pointer (some ⟨x2, 0, none⟩)] 74) := ⟨_, rfl⟩
  have HEx : Ext w2 W := by rw [hW]; exact (Below.refl _ _).alloc (Nat.le_refl _) _
  have HP : RPairAt w.heap.size w2.heap.size 14 S1 S2 W := ⟨x1, kb1, cp1, x2, kb2, cp2, by rw [hW]; simp [go_sem], by rw [hW]; simp [go_sem], RCip.carry (RCip.carry HC1.out HX2.out) HEx, RCip.carry HC2.out HEx, by rw [hW]; simp, by omega, by omega, by omega, by omega, by omega⟩
  have HB : Ext w W := Ext.trans (Ext.trans HX1.out HX2.out) HEx
  replace HP := hideit HP
  replace HB := hideit HB
  replace hW := hideit hW
  clear HEx HC1 HC2 HX1 HX2
  go_wp2
  refine bodyPost_ret (results_tmp2 Try.results19 _ _ _) rfl ?_
  rw [← hW.out]
  exact ⟨_, rfl, HP.out, HB.out⟩
theorem rxnew_bad (a : Option Addr) (len cap : Nat) (h1 : len ≠ 32) (h2 : len ≠ 64) (w : World) :
    Calls Try.prog 19 #[.slice a len cap] w fun e w' => e = .returned (.tuple #[.pointer none, .int .i64 20]) ∧ w' = w := by
  have h3 : ((len : Int) != 32) = true := by simp; omega
  have h4 : ((len : Int) != 64) = true := by simp; omega
  go_enter Try.func19, Try.ntmps19
  go_wp2
  refine bodyPost_ret (results_tmp2 Try.results19 _ _ _) rfl ?_
  exact ⟨rfl, rfl⟩
theorem makes80 {o : Oper} (hg : o.guard = none) (ho : o.op = .alloc 80) : Makes Try.prog o 2 (hv 0#128) := ⟨hg, fun ρ w => ⟨(row 2 (hv 0#128)).toArray, 80, by
  unfold execOp
  rw [ho]
  simp [go_sem]
  rfl, fun j hj => by rw [List.getElem?_toArray]; exact row_get 2 _ j hj⟩⟩
/-- the bytes of tweaks, one behind the other -/
def twsF (t : BitVec 128) (j : Nat) : BitVec 8 := byB (dK 135#128 (j / 16) t) (j % 16)
def TwAt (base c : Nat) (w : World) (t : BitVec 128) (n : Nat) (v : Value) (X : World) : Prop := RowAt c 2 (hv (dK 135#128 n t)) X ∧ OwnN base 23 16 v n (yv (twsF t)) X ∧ Ext w X
set_option maxRecDepth 20000 in
set_option maxHeartbeats 4000000 in
theorem rtweaks_any (base0 q r n : Nat) (S1 S2 : Nat → BitVec 8) (hr : 1 ≤ r) (hr2 : r ≤ 14) (u : BitVec 64) (hn : n ≤ 4097) (w : World) (hP : RPairAt base0 q r S1 S2 w) :
    Calls Try.prog 26 #[.pointer (some ⟨q, 0, none⟩), .int .u64 (u.toNat : Int), .int .i64 (n : Int)] w fun e w' => ∃ v, e = .returned v ∧ OwnN w.heap.size 23 16 v n (yv (twsF (tw0 S2 r u))) w' ∧ Below w.heap.size w w' := by
  have hz := store_Y16
  obtain ⟨c, hc⟩ : ∃ c, c = w.heap.size := ⟨_, rfl⟩
  obtain ⟨W1, hW1⟩ : ∃ W1, W1 = w.alloc (.cells (row 16 (yv fun _ => 0#8)).toArray 23) := ⟨_, rfl⟩
  have HE1 : Ext w W1 := by rw [hW1]; exact (Below.refl _ _).alloc (Nat.le_refl _) _
  have HZ1 : RowAt c 16 (yv fun _ => 0#8) W1 := by rw [hW1, hc]; exact RowAt.new w 16 (yv fun _ => 0#8) 23
  replace HE1 := hideit HE1
  replace HZ1 := hideit HZ1
  replace hW1 := hideit hW1
  replace hP := hideit hP
  have hlo : lo (jn u 0#64) = u := lo_jn _ _
  go_enter Try.func26, Try.ntmps26
  go_upto_region 3 with (fail)
  rw [← hW1.out, ← hc]
  have hcw : w.heap.size ≤ c := by omega
  clear hc hW1 hz
  go_loopw [8] (fun i wr => ∃ m : Nat, m ≤ 8 ∧ i = .int .i64 (m : Int) ∧ RowAt c 16 (yv fun j => if j < m then byB (jn u 0#64) j else 0#8) wr ∧ Ext w wr) (fun i _ => 8 - (intOf i).toNat)
  case atStart => exact ⟨0, by omega, rfl, HZ1.out.congr fun j _ => by simp only [yv]; rw [if_neg (by omega)], HE1.out⟩
  case round =>
    clear HZ1 HE1
    obtain ⟨m, hm, rfl, hR, hE⟩ := hrel
    have HR := hideit hR
    have HE := hideit hE
    clear hE
    by_cases hlt : m < 8
    · have m0 : (0 : Int) ≤ (m : Int) := by omega
      have m1 : (m : Int) < 8 := by omega
      have e1 := hR.1 m (by omega)
      have g1 := hR.2.1 m (by omega)
      have hby := byB_lo (jn u 0#64) m hlt
      rw [hlo] at hby
      clear hR
      go_upto_region 4 with (fail)
      have HS := hideit (RowAt.set HR.out m (.int .u8 ((byB (jn u 0#64) m).toNat : Int)))
      have HBu : But c wr (wr.setCell ⟨c, m, none⟩ (.int .u8 ((byB (jn u 0#64) m).toNat : Int))) := but_setCell _ _ _ _
      have HE' : Hid (Ext w _) := hideit (Ext.but HE.out HBu hcw)
      clear HR HE HBu e1 g1 hby
      generalize wr.setCell ⟨c, m, none⟩ (.int .u8 ((byB (jn u 0#64) m).toNat : Int)) = Y at *
      go_wp2
      go_roundw
      case rel =>
        have h1 : RowAt c 16 (yv fun j => if j < m + 1 then byB (jn u 0#64) j else 0#8) Y := HS.out.congr fun j _ => by
          simp only [yv]
          by_cases e : j = m
          · subst e; rw [if_pos rfl, if_pos (by omega)]
          · rw [if_neg e]
            by_cases h : j < m
            · rw [if_pos h, if_pos (by omega)]
            · rw [if_neg h, if_neg (by omega)]
        first | exact ⟨(m + 1 : Nat), by omega, by go_num, h1, HE'.out⟩ | ((repeat apply Exists.intro); exact ⟨⟨m + 1, by omega, by go_num, h1, HE'.out⟩, rfl⟩)
      case measure => simp [intOf]; omega
    · obtain rfl : m = 8 := by omega
      obtain ⟨f, hf⟩ : ∃ f, f = byB (jn u 0#64) := ⟨_, rfl⟩
      have HF : Hid (RowAt c 16 (yv f) wr) := hideit (HR.out.congr fun j hj => by
        simp only [yv]
        rw [hf]
        by_cases h : j < 8
        · rw [if_pos h]
        · rw [if_neg h]
          have h2 := byB_hi (jn u 0#64) (j - 8) (by omega)
          rw [hi_jn, show 8 + (j - 8) = j by omega] at h2
          rw [← h2]
          simp)
      clear HR hR hlo
      obtain ⟨t, ht⟩ : ∃ t, t = tw0 S2 r u := ⟨_, rfl⟩
      obtain ⟨E, hE⟩ : ∃ E, E = encF S2 bxT twT r f := ⟨_, rfl⟩
      have htE : Hid (ofB E = t) := by unfold Hid; rw [ht, hE, hf]; rfl
      replace ht := hideit ht
      replace hf := hideit hf
      have hne := kept_ne wr.drew
      obtain ⟨x1, kb1, cp1, x2, kb2, cp2, p1, p2, p3, p4, p5, _⟩ := hP.out.ext (Ext.trans HE.out (Ext.draw (Ext.refl wr)))
      have e1 : ∀ k : Kept (Ext wr.drew), k.w.cell? ⟨q, 1, none⟩ = some (.pointer (some ⟨x2, 0, none⟩)) := fun k => (Below.cell k.ok (p := ⟨q, 1, none⟩) p5).trans p2
      replace p4 := hideit p4
      have hrn : Hid (∀ X, Ext wr.drew X → Calls Try.prog 13 #[.pointer (some ⟨x2, 0, none⟩), .agg (row 16 (yv f)).toArray] X fun e w' => e = .returned (.agg (row 16 (yv E)).toArray) ∧ Below X.heap.size X w') := fun X hX => by rw [hE]; exact renc_as x2 kb2 cp2 r S2 f hr hr2 X (p4.out.carry hX)
      clear hE p1 p2 p3 p4
      go_upto_region 6 with (fail)
      refine wp_region_made 7 2 (hv 0#128) _ (by kernel_rfl) (by kernel_rfl) rfl (makes80 rfl rfl) ?_
      simp only [List.take_succ_cons, List.take_zero, List.drop_succ_cons, List.drop_zero]
      refine wpStrong_run 5 rfl ?_
      simp only [List.take_succ_cons, List.take_zero, List.drop_succ_cons, List.drop_zero]
      go_big_quiet_step (fail)
      go_big_quiet_step (fail)
      go_big_quiet_step (fail)
      go_big_quiet_step (fail)
      go_big_quiet_want
      refine loadQ 23 (.tmp 7) c 0 16 (yv f) rfl rfl (fun w' hw' => (RowAt.carry (RowAt.drew HF.out) hw').range) Try.underlying23 rfl info32 ?_
      simp only [Act.put, List.setIfInBounds_toArray, List.set_cons_zero, List.set_cons_succ]
      go_big_quiet_on
      refine wpQuiet_nil ?_
      refine wpStrong_call rfl (fun X => by simp [go_sem]) (fun X hX => hrn.out X hX) ?_
      simp only [Act.put, List.setIfInBounds_toArray, List.set_cons_zero, List.set_cons_succ]
      refine wpStrong_call rfl (fun X => by simp [go_sem]) (fun X _ => rof_any E X) ?_
      simp only [Act.put, List.setIfInBounds_toArray, List.set_cons_zero, List.set_cons_succ]
      refine wpStrong_nil ?_
      intro d X hd hX hR
      have hX' : Ext wr X := Ext.trans ((Below.refl _ _).drew) hX
      have HEX : Hid (Ext w X) := hideit (Ext.trans HE.out hX')
      have hwd : w.heap.size ≤ d := by have := Below.size HE.out; omega
      replace hR := hideit hR
      clear hne e1 hX hX' hrn HF HE p5
      rw [htE.out]
      refine wpList_store_mid rfl 80 (.tmp 9) (.tmp 29) rfl _ 0 (row 2 (hv t)).toArray rfl rfl (by rw [row_size]; exact hR.out.there) (by rw [row_size]; exact info80) (hv_one _) ?_
      have HBu : But d X (X.setCells d 0 (row 2 (hv t))) := But.sets _ 0 _ (But.refl _ _)
      have HI : TwAt (d + 1) d w t 0 (.slice none 0 0) (X.setCells d 0 (row 2 (hv t))) := ⟨hR.out.cells, ownN_nil _ _ _ _ _, Ext.but HEX.out HBu hwd⟩
      replace HI := hideit HI
      clear hR HEX HBu htE
      generalize X.setCells d 0 (row 2 (hv t)) = Y at *
      simp only [Act.put]
      go_upto_region 9 with (fail)
      go_loopw [10, 11] (fun v i wr => ∃ m : Nat, m ≤ n ∧ i = .int .i64 (m : Int) ∧ TwAt (d + 1) d w t m v wr) (fun _ i _ => 5000 - (intOf i).toNat)
      case atStart => exact ⟨0, by omega, rfl, HI.out⟩
      case round =>
        clear HI
        obtain ⟨m, hm, rfl, hI⟩ := hrel
        have HI := hideit hI
        clear hI
        by_cases hlt : m < n
        · have m0 : (0 : Int) ≤ (m : Int) := by omega
          have m1 : (m : Int) < (n : Int) := by omega
          have m2 : (m : Int) ≤ 4097 := by omega
          obtain ⟨T, hT⟩ : ∃ T, T = dK 135#128 m t := ⟨_, rfl⟩
          have HH : RowAt d 2 (hv T) wr := by rw [hT]; exact HI.out.1
          replace HH := hideit HH
          replace hT := hideit hT
          go_upto_region 11 with (fail)
          refine wp_region_lit ?_
          refine wpList_run rfl u10 (by simp [go_sem]) ?_
          simp only [Act.put, List.setIfInBounds_toArray, List.set_cons_zero, List.set_cons_succ]
          refine wpList_load_mid rfl 80 (.tmp 9) rfl _ 0 rfl (row 2 (hv T)) _ HH.out.range Try.underlying80 rfl (by rw [row_length]; exact info80) ?_
          simp only [Act.put, List.setIfInBounds_toArray, List.set_cons_zero, List.set_cons_succ]
          refine wpList_call rfl (by simp [go_sem, hv_row]) ((rbytes_any T _).mono ?_)
          rintro e w4 ⟨rfl, h4⟩
          refine ⟨_, rfl, ?_⟩
          simp only [Act.put, List.setIfInBounds_toArray, List.set_cons_zero, List.set_cons_succ]
          have HI4 : TwAt (d + 1) d w t m u10 w4 := ⟨HI.out.1.carry h4, HI.out.2.1.ext h4, Ext.trans HI.out.2.2 h4⟩
          replace HI4 := hideit HI4
          clear HI HH h4
          refine wpList_to rfl (.slice (some ⟨w4.heap.size, 0, none⟩) 1 1) (w4.alloc (.cells (row 16 (yv (byB T))).toArray 23)) (exec_bslice 36 1 [(0, .tmp 37)] rfl (bslice36 (byB T) w4)) ?_
          simp only [Act.put, List.setIfInBounds_toArray, List.set_cons_zero, List.set_cons_succ]
          have HEx : Ext w4 (w4.alloc (.cells (row 16 (yv (byB T))).toArray 23)) := (Below.refl _ _).alloc (Nat.le_refl _) _
          have HI5 : TwAt (d + 1) d w t m u10 (w4.alloc (.cells (row 16 (yv (byB T))).toArray 23)) := ⟨HI4.out.1.carry HEx, HI4.out.2.1.ext HEx, Ext.trans HI4.out.2.2 HEx⟩
          refine wpList_growN elem36 (by decide) rfl (.tmp 35) (.tmp 38) rfl rfl HI5.2.1 ⟨w4.heap.size, 0, none⟩ 1 1 (yv (byB T)) (yv (twsF t)) rfl (lie_row (RowAt.new w4 16 (yv (byB T)) 23)) (fun _ _ => rfl) (fun _ _ => rfl) (fun j hj => by simp only [yv, twsF]; rw [show (m * 16 + j) / 16 = m by omega, show (m * 16 + j) % 16 = j by omega, hT.out]) (by omega) HI5.1.2.2 ?_
          intro v6 w6 ho hg hz6
          have hlt6 := HI5.2.1.lt
          have H5' : RowAt d 2 (hv T) (w4.alloc (.cells (row 16 (yv (byB T))).toArray 23)) := by
            have h := HI5.1
            rwa [← hT.out] at h
          have H6 : RowAt d 2 (hv T) w6 := RowAt.grown H5' hg (fun h => by have := (hlt6 d h.symm).1; omega)
          have E6 : Ext w w6 := gr_ext HI5.2.2 hg (fun k h => by have := (hlt6 k h).1; omega)
          replace H6 := hideit H6
          replace E6 := hideit E6
          replace ho := hideit ho
          clear hg hz6 hlt6 H5' HI5 HEx HI4
          simp only [Act.put, List.setIfInBounds_toArray, List.set_cons_zero, List.set_cons_succ]
          go_upto_region 12 with (fail)
          refine wp_region_lit ?_
          refine wpList_load_mid rfl 80 (.tmp 9) rfl _ 0 rfl (row 2 (hv T)) _ H6.out.range Try.underlying80 rfl (by rw [row_length]; exact info80) ?_
          simp only [Act.put, List.setIfInBounds_toArray, List.set_cons_zero, List.set_cons_succ]
          refine wpList_call rfl (by simp [go_sem, hv_row]) ((rdouble_any T _).mono ?_)
          rintro e w7 ⟨rfl, h7⟩
          refine ⟨_, rfl, ?_⟩
          simp only [Act.put, List.setIfInBounds_toArray, List.set_cons_zero, List.set_cons_succ]
          have H7 := hideit (H6.out.carry h7)
          have O7 := hideit (ho.out.ext h7)
          have E7 : Hid (Ext w w7) := hideit (Ext.trans E6.out h7)
          clear H6 E6 ho h7
          refine wpList_store_mid rfl 80 (.tmp 9) (.tmp 41) rfl _ 0 (row 2 (hv (dX 135#128 T))).toArray rfl rfl (by rw [row_size]; exact H7.out.there) (by rw [row_size]; exact info80) (hv_one _) ?_
          have HBu : But d w7 (w7.setCells d 0 (row 2 (hv (dX 135#128 T)))) := But.sets _ 0 _ (But.refl _ _)
          have HI8 : TwAt (d + 1) d w t (m + 1) v6 (w7.setCells d 0 (row 2 (hv (dX 135#128 T)))) := ⟨by
            show RowAt d 2 (hv (dX 135#128 (dK 135#128 m t))) _
            rw [← hT.out]; exact H7.out.cells, O7.out.but HBu (fun h => by have := (O7.out.lt d h).1; omega), Ext.but E7.out HBu hwd⟩
          replace HI8 := hideit HI8
          clear H7 O7 E7 HBu
          generalize w7.setCells d 0 (row 2 (hv (dX 135#128 T))) = Z at *
          simp only [Act.put]
          go_wp2
          go_roundw
          case rel =>
            have h1 := HI8.out
            first | exact ⟨(m + 1 : Nat), by omega, by go_num, h1⟩ | ((repeat apply Exists.intro); exact ⟨⟨m + 1, by omega, by go_num, h1⟩, rfl⟩)
          case measure => simp [intOf]; omega
        · obtain rfl : m = n := by omega
          have HO : OwnN w.heap.size 23 16 u10 m (yv (twsF (tw0 S2 r u))) wr := by
            rw [← ht.out]
            exact ⟨HI.out.2.1.1, HI.out.2.1.2.imp id fun ⟨g, cp, cur, k1, k2, k3⟩ => ⟨g, cp, cur, k1, by omega, k3⟩⟩
          replace HO := hideit HO
          go_wp2
          go_ret
          exact ⟨u10, rfl, HO.out, HI.out.2.2⟩
end Go.Proofs.Ytkoodgfadedeoaa
namespace Go.Proofs.Ytkoodgfadedeoaa
open Go.RowKit Go.BigFrame
set_option maxRecDepth 20000 in
set_option maxHeartbeats 4000000 in
theorem ratE_any (base0 q r : Nat) (S1 S2 : Nat → BitVec 8) (hr : 1 ≤ r) (hr2 : r ≤ 14) (a : Addr) (cap : Nat) (b t : Nat → BitVec 8) (w : World) (hP : RPairAt base0 q r S1 S2 w) (hB : LieAt a 16 (yv b) w) :
    Calls Try.prog 60 #[.pointer (some ⟨q, 0, none⟩), .slice (some a) 16 cap, .agg (row 16 (yv t)).toArray, .bool false] w fun e w' => ∃ v, e = .returned v ∧ OwnB w.heap.size 5 v 16 (yv (addF ((encF S1 bxT twT r) (addF b t)) t)) w' ∧ Below w.heap.size w w' := by
  have hz := store_Y16
  obtain ⟨c, hc⟩ : ∃ c, c = w.heap.size := ⟨_, rfl⟩
  obtain ⟨W2, hW2⟩ : ∃ W2, W2 = (w.alloc (.cells (row 16 (yv t)).toArray 23)).alloc (.cells (row 16 (yv fun _ => 0#8)).toArray 23) := ⟨_, rfl⟩
  have HE2 : Ext w W2 := by rw [hW2]; exact ((Below.refl _ _).alloc (Nat.le_refl _) _).alloc (by simp) _
  have HT2 : RowAt c 16 (yv t) W2 := by rw [hW2, hc]; exact (RowAt.new w 16 (yv t) 23).alloc _
  have HZ2 : RowAt (c + 1) 16 (yv fun _ => 0#8) W2 := by
    have h := RowAt.new (w.alloc (.cells (row 16 (yv t)).toArray 23)) 16 (yv fun _ => 0#8) 23
    rw [hW2, hc]; simpa using h
  replace HE2 := hideit HE2
  replace HT2 := hideit HT2
  replace HZ2 := hideit HZ2
  replace hW2 := hideit hW2
  replace hP := hideit hP
  replace hB := hideit hB
  go_enter Try.func60, Try.ntmps60
  go_upto_region 3 with (fail)
  rw [← hW2.out, ← hc]
  have hcw : w.heap.size ≤ c := by omega
  clear hc hW2 hz
  go_loopw [10] (fun i wr => ∃ m : Nat, m ≤ 16 ∧ i = .int .i64 (m : Int) ∧ RowAt c 16 (yv t) wr ∧ RowAt (c + 1) 16 (yv fun j => if j < m then addF b t j else 0#8) wr ∧ Ext w wr) (fun i _ => 16 - (intOf i).toNat)
  case atStart => exact ⟨0, by omega, rfl, HT2.out, HZ2.out.congr fun j _ => by simp only [yv]; rw [if_neg (by omega)], HE2.out⟩
  case round =>
    clear HT2 HZ2 HE2
    obtain ⟨m, hm, rfl, hT, hR, hE⟩ := hrel
    have HT := hideit hT
    have HR := hideit hR
    have HE := hideit hE
    by_cases hlt : m < 16
    · have m0 : (0 : Int) ≤ (m : Int) := by omega
      have m1 : (m : Int) < 16 := by omega
      have e1 := hR.1 m (by omega)
      have g1 := hR.2.1 m (by omega)
      have e2 : wr.cell? ⟨c, m, none⟩ = some (.int .u8 ((t m).toNat : Int)) := hT.1 m hlt
      have e3 : wr.cell? (a.add m) = some (.int .u8 ((b m).toNat : Int)) := (hB.out.carry hE).1 m hlt
      have o3 : bits .xor .u8 ((b m).toNat : Int) ((t m).toNat : Int) = ((addF b t m).toNat : Int) := xB_fact _ _
      clear hT hR hE
      go_upto_region 5 with (fail)
      go_region
      have HS := hideit (RowAt.set HR.out m (.int .u8 ((addF b t m).toNat : Int))).drew
      have HBu : But (c + 1) wr (wr.setCell ⟨c + 1, m, none⟩ (.int .u8 ((addF b t m).toNat : Int))).drew := (but_setCell _ _ _ _).drew
      have HE' : Hid (Ext w _) := hideit (Ext.but HE.out HBu (by omega))
      have HT' := hideit (RowAt.but HT.out HBu (by omega))
      clear HR HE HT HBu e1 g1 e2 e3
      generalize (wr.setCell ⟨c + 1, m, none⟩ (.int .u8 ((addF b t m).toNat : Int))).drew = Y at *
      go_wp2
      go_roundw
      case rel =>
        have h1 : RowAt (c + 1) 16 (yv fun j => if j < m + 1 then addF b t j else 0#8) Y := HS.out.congr fun j _ => by
          simp only [yv]
          by_cases e : j = m
          · subst e; rw [if_pos rfl, if_pos (by omega)]
          · rw [if_neg e]
            by_cases h : j < m
            · rw [if_pos h, if_pos (by omega)]
            · rw [if_neg h, if_neg (by omega)]
        first | exact ⟨(m + 1 : Nat), by omega, by go_num, HT'.out, h1, HE'.out⟩ | ((repeat apply Exists.intro); exact ⟨⟨m + 1, by omega, by go_num, HT'.out, h1, HE'.out⟩, rfl⟩)
      case measure => simp [intOf]; omega
    · obtain rfl : m = 16 := by omega
      clear hT hR hE
      obtain ⟨f, hf⟩ : ∃ f, f = addF b t := ⟨_, rfl⟩
      have HF : Hid (RowAt (c + 1) 16 (yv f) wr) := hideit (HR.out.congr fun j hj => by simp only [yv]; rw [if_pos hj, hf])
      clear HR
      obtain ⟨E, hEE⟩ : ∃ E, E = (encF S1 bxT twT r) f := ⟨_, rfl⟩
      obtain ⟨x1, kb1, cp1, x2, kb2, cp2, p1, p2, p3, p4, p5, _⟩ := hP.out.ext (Ext.trans HE.out (Ext.draw (Ext.refl wr)))
      have e1 : ∀ k : Kept (Ext wr.drew), k.w.cell? ⟨q, 0, none⟩ = some (.pointer (some ⟨x1, 0, none⟩)) := fun k => (Below.cell k.ok (p := ⟨q, 0, none⟩) p5).trans p1
      replace p3 := hideit p3
      have hrn : Hid (∀ X, Ext wr.drew X → Calls Try.prog 13 #[.pointer (some ⟨x1, 0, none⟩), .agg (row 16 (yv f)).toArray] X fun e w' => e = .returned (.agg (row 16 (yv E)).toArray) ∧ Below X.heap.size X w') := fun X hX => by rw [hEE]; exact renc_as x1 kb1 cp1 r S1 f hr hr2 X (p3.out.carry hX)
      replace hEE := hideit hEE
      replace hf := hideit hf
      clear p1 p2 p3 p4
      have hne := kept_ne wr.drew
      go_upto_region 8 with (fail)
      refine wp_region_late 6 (by kernel_rfl) (by kernel_rfl) (by decide) ?_
      simp only [List.take_succ_cons, List.take_zero, List.drop_succ_cons, List.drop_zero]
      refine wpStrong_run 5 rfl ?_
      simp only [List.take_succ_cons, List.take_zero, List.drop_succ_cons, List.drop_zero]
      go_big_quiet_step (fail)
      go_big_quiet_step (fail)
      go_big_quiet_step (fail)
      go_big_quiet_step (fail)
      go_big_quiet_want
      refine loadQ 23 (.tmp 9) (c + 1) 0 16 (yv f) rfl rfl (fun w' hw' => (RowAt.carry (RowAt.drew HF.out) hw').range) Try.underlying23 rfl info32 ?_
      simp only [Act.put, List.setIfInBounds_toArray, List.set_cons_zero, List.set_cons_succ]
      go_big_quiet_on
      refine wpQuiet_nil ?_
      refine wpStrong_call rfl (fun X => by simp [go_sem]) (fun X hX => hrn.out X hX) ?_
      simp only [Act.put, List.setIfInBounds_toArray, List.set_cons_zero, List.set_cons_succ]
      refine wpStrong_nil ?_
      intro X hX
      have hX' : Ext wr X := Ext.trans ((Below.refl _ _).drew) hX
      have HFX := hideit (HF.out.carry hX')
      have HTX := hideit (HT.out.carry hX')
      have HEX : Hid (Ext w X) := hideit (Ext.trans HE.out hX')
      clear hne e1 hX hX' hrn HF HT HE p5
      refine wpList_store_mid rfl 23 (.tmp 9) (.tmp 39) rfl _ 0 (row 16 (yv E)).toArray rfl rfl (by rw [row_size]; exact HFX.out.there) (by rw [row_size]; exact info32) (row_one fun _ _ => rfl) ?_
      have HBu : But (c + 1) X (X.setCells (c + 1) 0 (row 16 (yv E))) := But.sets _ 0 _ (But.refl _ _)
      have HE3 := hideit (HFX.out.cells (g' := yv E))
      have HT3 := hideit (RowAt.but HTX.out HBu (by omega))
      have HX3 : Hid (Ext w _) := hideit (Ext.but HEX.out HBu (by omega))
      clear HFX HTX HEX HBu
      generalize X.setCells (c + 1) 0 (row 16 (yv E)) = Y at *
      simp only [Act.put]
      go_upto_region 11 with (fail)
      go_loopw [11, 12] (fun v i wr => ∃ m : Nat, m ≤ 16 ∧ i = .int .i64 (m : Int) ∧ RowAt c 16 (yv t) wr ∧ RowAt (c + 1) 16 (yv E) wr ∧ OwnB (c + 1 + 1) 5 v m (yv (addF E t)) wr ∧ Ext w wr) (fun _ i _ => 16 - (intOf i).toNat)
      case atStart => exact ⟨0, by omega, rfl, HT3.out, HE3.out, own_nil _ _ _ _, HX3.out⟩
      case round =>
        clear HT3 HE3 HX3
        obtain ⟨m, hm, rfl, hT, hR, hO, hE⟩ := hrel
        have HT := hideit hT
        have HR := hideit hR
        have HO := hideit hO
        have HE := hideit hE
        clear hT hR hO hE
        by_cases hlt : m < 16
        · have m0 : (0 : Int) ≤ (m : Int) := by omega
          have m1 : (m : Int) < 16 := by omega
          have e1 : ∀ k : Kept (Ext wr.drew), k.w.cell? ⟨c + 1, m, none⟩ = some (.int .u8 ((E m).toNat : Int)) := fun k => (HR.out.drew.carry k.ok).1 m hlt
          have e2 : ∀ k : Kept (Ext wr.drew), k.w.cell? ⟨c, m, none⟩ = some (.int .u8 ((t m).toNat : Int)) := fun k => (HT.out.drew.carry k.ok).1 m hlt
          have o3 : bits .xor .u8 ((E m).toNat : Int) ((t m).toNat : Int) = ((addF E t m).toNat : Int) := xB_fact _ _
          have hne := kept_ne wr.drew
          go_upto_region 13 with (fail)
          refine wp_region_mixn 8 2 _ _ rfl rfl (by kernel_rfl) (by kernel_rfl) (by decide +kernel) (by decide +kernel) (by decide +kernel) (by decide +kernel) ?_
          simp only [List.take_succ_cons, List.take_zero]
          refine wpStrong_run 8 rfl ?_
          simp only [List.take_succ_cons, List.take_zero, List.drop_succ_cons, List.drop_zero]
          repeat (go_big_quiet_step (fail))
          refine wpQuiet_nil ?_
          refine wpStrong_nil ?_
          clear e1 e2 hne
          refine ⟨1, fun _ => .int .u8 ((addF E t m).toNat : Int), fun b => .slice (some ⟨b, 0, none⟩) 1 1, ⟨rfl, fun X hX => ⟨#[.int .u8 ((addF E t m).toNat : Int)], 5, ?_, fun j hj => ?_⟩⟩, fun d X hd hX hR1 => ?_⟩
          · simp [go_sem]
          · obtain rfl : j = 0 := by omega
            rfl
          have hX' : Ext wr X := Ext.trans ((Below.refl _ _).drew) hX
          have HOX := HO.out.ext hX'
          simp only [Act.put, List.setIfInBounds_toArray, List.set_cons_zero, List.set_cons_succ]
          refine wpList_grow elem22 rfl (.tmp 44) (.tmp 52) rfl rfl HOX ⟨d, 0, none⟩ 1 1 (fun _ => .int .u8 ((addF E t m).toNat : Int)) (yv (addF E t)) rfl (lie_of_row hR1) (fun _ _ => rfl) (fun _ _ => rfl) (fun j hj => by cases (show j = 0 by omega); rfl) (by omega) (by have := HR.out.2.2; have := Below.size hX'; omega) ?_
          intro v3 w3 ho hg
          have hlt3 := HOX.lt
          have H1 := hideit (RowAt.grown (HT.out.carry hX') hg (fun h => by have := (hlt3 c h.symm).1; omega))
          have H2 := hideit (RowAt.grown (HR.out.carry hX') hg (fun h => by have := (hlt3 (c + 1) h.symm).1; omega))
          have H3 : Hid (Ext w w3) := hideit (gr_ext (Ext.trans HE.out hX') hg (fun k h => by have := (hlt3 k h).1; omega))
          replace ho := hideit ho
          clear hg hlt3 HOX hR1 hX hX' hd HT HR HO HE
          simp only [Act.put, List.setIfInBounds_toArray, List.set_cons_zero, List.set_cons_succ]
          go_wp2
          go_roundw
          case rel =>
            first | exact ⟨(m + 1 : Nat), by omega, by go_num, H1.out, H2.out, ho.out, H3.out⟩ | ((repeat apply Exists.intro); exact ⟨⟨m + 1, by omega, by go_num, H1.out, H2.out, ho.out, H3.out⟩, rfl⟩)
          case measure => simp [intOf]; omega
        · obtain rfl : m = 16 := by omega
          have HOF : OwnB w.heap.size 5 u11 16 (yv (addF ((encF S1 bxT twT r) (addF b t)) t)) wr := by
            rw [← hf.out, ← hEE.out]
            exact ⟨HO.out.1, HO.out.2.imp id fun ⟨g, cp, cur, k1, k2, k3⟩ => ⟨g, cp, cur, k1, by omega, k3⟩⟩
          replace HOF := hideit HOF
          go_wp2
          go_ret
          exact ⟨u11, rfl, HOF.out, HE.out⟩
set_option maxRecDepth 20000 in
set_option maxHeartbeats 4000000 in
theorem ratD_any (base0 q r : Nat) (S1 S2 : Nat → BitVec 8) (hr : 1 ≤ r) (hr2 : r ≤ 14) (a : Addr) (cap : Nat) (b t : Nat → BitVec 8) (w : World) (hP : RPairAt base0 q r S1 S2 w) (hB : LieAt a 16 (yv b) w) :
    Calls Try.prog 60 #[.pointer (some ⟨q, 0, none⟩), .slice (some a) 16 cap, .agg (row 16 (yv t)).toArray, .bool true] w fun e w' => ∃ v, e = .returned v ∧ OwnB w.heap.size 5 v 16 (yv (addF ((decF S1 ubT twT r) (addF b t)) t)) w' ∧ Below w.heap.size w w' := by
  have hz := store_Y16
  obtain ⟨c, hc⟩ : ∃ c, c = w.heap.size := ⟨_, rfl⟩
  obtain ⟨W2, hW2⟩ : ∃ W2, W2 = (w.alloc (.cells (row 16 (yv t)).toArray 23)).alloc (.cells (row 16 (yv fun _ => 0#8)).toArray 23) := ⟨_, rfl⟩
  have HE2 : Ext w W2 := by rw [hW2]; exact ((Below.refl _ _).alloc (Nat.le_refl _) _).alloc (by simp) _
  have HT2 : RowAt c 16 (yv t) W2 := by rw [hW2, hc]; exact (RowAt.new w 16 (yv t) 23).alloc _
  have HZ2 : RowAt (c + 1) 16 (yv fun _ => 0#8) W2 := by
    have h := RowAt.new (w.alloc (.cells (row 16 (yv t)).toArray 23)) 16 (yv fun _ => 0#8) 23
    rw [hW2, hc]; simpa using h
  replace HE2 := hideit HE2
  replace HT2 := hideit HT2
  replace HZ2 := hideit HZ2
  replace hW2 := hideit hW2
  replace hP := hideit hP
  replace hB := hideit hB
  go_enter Try.func60, Try.ntmps60
  go_upto_region 3 with (fail)
  rw [← hW2.out, ← hc]
  have hcw : w.heap.size ≤ c := by omega
  clear hc hW2 hz
  go_loopw [10] (fun i wr => ∃ m : Nat, m ≤ 16 ∧ i = .int .i64 (m : Int) ∧ RowAt c 16 (yv t) wr ∧ RowAt (c + 1) 16 (yv fun j => if j < m then addF b t j else 0#8) wr ∧ Ext w wr) (fun i _ => 16 - (intOf i).toNat)
  case atStart => exact ⟨0, by omega, rfl, HT2.out, HZ2.out.congr fun j _ => by simp only [yv]; rw [if_neg (by omega)], HE2.out⟩
  case round =>
    clear HT2 HZ2 HE2
    obtain ⟨m, hm, rfl, hT, hR, hE⟩ := hrel
    have HT := hideit hT
    have HR := hideit hR
    have HE := hideit hE
    by_cases hlt : m < 16
    · have m0 : (0 : Int) ≤ (m : Int) := by omega
      have m1 : (m : Int) < 16 := by omega
      have e1 := hR.1 m (by omega)
      have g1 := hR.2.1 m (by omega)
      have e2 : wr.cell? ⟨c, m, none⟩ = some (.int .u8 ((t m).toNat : Int)) := hT.1 m hlt
      have e3 : wr.cell? (a.add m) = some (.int .u8 ((b m).toNat : Int)) := (hB.out.carry hE).1 m hlt
      have o3 : bits .xor .u8 ((b m).toNat : Int) ((t m).toNat : Int) = ((addF b t m).toNat : Int) := xB_fact _ _
      clear hT hR hE
      go_upto_region 5 with (fail)
      go_region
      have HS := hideit (RowAt.set HR.out m (.int .u8 ((addF b t m).toNat : Int))).drew
      have HBu : But (c + 1) wr (wr.setCell ⟨c + 1, m, none⟩ (.int .u8 ((addF b t m).toNat : Int))).drew := (but_setCell _ _ _ _).drew
      have HE' : Hid (Ext w _) := hideit (Ext.but HE.out HBu (by omega))
      have HT' := hideit (RowAt.but HT.out HBu (by omega))
      clear HR HE HT HBu e1 g1 e2 e3
      generalize (wr.setCell ⟨c + 1, m, none⟩ (.int .u8 ((addF b t m).toNat : Int))).drew = Y at *
      go_wp2
      go_roundw
      case rel =>
        have h1 : RowAt (c + 1) 16 (yv fun j => if j < m + 1 then addF b t j else 0#8) Y := HS.out.congr fun j _ => by
          simp only [yv]
          by_cases e : j = m
          · subst e; rw [if_pos rfl, if_pos (by omega)]
          · rw [if_neg e]
            by_cases h : j < m
            · rw [if_pos h, if_pos (by omega)]
            · rw [if_neg h, if_neg (by omega)]
        first | exact ⟨(m + 1 : Nat), by omega, by go_num, HT'.out, h1, HE'.out⟩ | ((repeat apply Exists.intro); exact ⟨⟨m + 1, by omega, by go_num, HT'.out, h1, HE'.out⟩, rfl⟩)
      case measure => simp [intOf]; omega
    · obtain rfl : m = 16 := by omega
      clear hT hR hE
      obtain ⟨f, hf⟩ : ∃ f, f = addF b t := ⟨_, rfl⟩
      have HF : Hid (RowAt (c + 1) 16 (yv f) wr) := hideit (HR.out.congr fun j hj => by simp only [yv]; rw [if_pos hj, hf])
      clear HR
      obtain ⟨E, hEE⟩ : ∃ E, E = (decF S1 ubT twT r) f := ⟨_, rfl⟩
      obtain ⟨x1, kb1, cp1, x2, kb2, cp2, p1, p2, p3, p4, p5, _⟩ := hP.out.ext (Ext.trans HE.out (Ext.draw (Ext.refl wr)))
      have e1 : ∀ k : Kept (Ext wr.drew), k.w.cell? ⟨q, 0, none⟩ = some (.pointer (some ⟨x1, 0, none⟩)) := fun k => (Below.cell k.ok (p := ⟨q, 0, none⟩) p5).trans p1
      replace p3 := hideit p3
      have hrn : Hid (∀ X, Ext wr.drew X → Calls Try.prog 15 #[.pointer (some ⟨x1, 0, none⟩), .agg (row 16 (yv f)).toArray] X fun e w' => e = .returned (.agg (row 16 (yv E)).toArray) ∧ Below X.heap.size X w') := fun X hX => by rw [hEE]; exact rdec_as x1 kb1 cp1 r S1 f hr hr2 X (p3.out.carry hX)
      replace hEE := hideit hEE
      replace hf := hideit hf
      clear p1 p2 p3 p4
      have hne := kept_ne wr.drew
      go_upto_region 7 with (fail)
      refine wp_region_late 6 (by kernel_rfl) (by kernel_rfl) (by decide) ?_
      simp only [List.take_succ_cons, List.take_zero, List.drop_succ_cons, List.drop_zero]
      refine wpStrong_run 5 rfl ?_
      simp only [List.take_succ_cons, List.take_zero, List.drop_succ_cons, List.drop_zero]
      go_big_quiet_step (fail)
      go_big_quiet_step (fail)
      go_big_quiet_step (fail)
      go_big_quiet_step (fail)
      go_big_quiet_want
      refine loadQ 23 (.tmp 9) (c + 1) 0 16 (yv f) rfl rfl (fun w' hw' => (RowAt.carry (RowAt.drew HF.out) hw').range) Try.underlying23 rfl info32 ?_
      simp only [Act.put, List.setIfInBounds_toArray, List.set_cons_zero, List.set_cons_succ]
      go_big_quiet_on
      refine wpQuiet_nil ?_
      refine wpStrong_call rfl (fun X => by simp [go_sem]) (fun X hX => hrn.out X hX) ?_
      simp only [Act.put, List.setIfInBounds_toArray, List.set_cons_zero, List.set_cons_succ]
      refine wpStrong_nil ?_
      intro X hX
      have hX' : Ext wr X := Ext.trans ((Below.refl _ _).drew) hX
      have HFX := hideit (HF.out.carry hX')
      have HTX := hideit (HT.out.carry hX')
      have HEX : Hid (Ext w X) := hideit (Ext.trans HE.out hX')
      clear hne e1 hX hX' hrn HF HT HE p5
      refine wpList_store_mid rfl 23 (.tmp 9) (.tmp 33) rfl _ 0 (row 16 (yv E)).toArray rfl rfl (by rw [row_size]; exact HFX.out.there) (by rw [row_size]; exact info32) (row_one fun _ _ => rfl) ?_
      have HBu : But (c + 1) X (X.setCells (c + 1) 0 (row 16 (yv E))) := But.sets _ 0 _ (But.refl _ _)
      have HE3 := hideit (HFX.out.cells (g' := yv E))
      have HT3 := hideit (RowAt.but HTX.out HBu (by omega))
      have HX3 : Hid (Ext w _) := hideit (Ext.but HEX.out HBu (by omega))
      clear HFX HTX HEX HBu
      generalize X.setCells (c + 1) 0 (row 16 (yv E)) = Y at *
      simp only [Act.put]
      go_upto_region 11 with (fail)
      go_loopw [11, 12] (fun v i wr => ∃ m : Nat, m ≤ 16 ∧ i = .int .i64 (m : Int) ∧ RowAt c 16 (yv t) wr ∧ RowAt (c + 1) 16 (yv E) wr ∧ OwnB (c + 1 + 1) 5 v m (yv (addF E t)) wr ∧ Ext w wr) (fun _ i _ => 16 - (intOf i).toNat)
      case atStart => exact ⟨0, by omega, rfl, HT3.out, HE3.out, own_nil _ _ _ _, HX3.out⟩
      case round =>
        clear HT3 HE3 HX3
        obtain ⟨m, hm, rfl, hT, hR, hO, hE⟩ := hrel
        have HT := hideit hT
        have HR := hideit hR
        have HO := hideit hO
        have HE := hideit hE
        clear hT hR hO hE
        by_cases hlt : m < 16
        · have m0 : (0 : Int) ≤ (m : Int) := by omega
          have m1 : (m : Int) < 16 := by omega
          have e1 : ∀ k : Kept (Ext wr.drew), k.w.cell? ⟨c + 1, m, none⟩ = some (.int .u8 ((E m).toNat : Int)) := fun k => (HR.out.drew.carry k.ok).1 m hlt
          have e2 : ∀ k : Kept (Ext wr.drew), k.w.cell? ⟨c, m, none⟩ = some (.int .u8 ((t m).toNat : Int)) := fun k => (HT.out.drew.carry k.ok).1 m hlt
          have o3 : bits .xor .u8 ((E m).toNat : Int) ((t m).toNat : Int) = ((addF E t m).toNat : Int) := xB_fact _ _
          have hne := kept_ne wr.drew
          go_upto_region 13 with (fail)
          refine wp_region_mixn 8 2 _ _ rfl rfl (by kernel_rfl) (by kernel_rfl) (by decide +kernel) (by decide +kernel) (by decide +kernel) (by decide +kernel) ?_
          simp only [List.take_succ_cons, List.take_zero]
          refine wpStrong_run 8 rfl ?_
          simp only [List.take_succ_cons, List.take_zero, List.drop_succ_cons, List.drop_zero]
          repeat (go_big_quiet_step (fail))
          refine wpQuiet_nil ?_
          refine wpStrong_nil ?_
          clear e1 e2 hne
          refine ⟨1, fun _ => .int .u8 ((addF E t m).toNat : Int), fun b => .slice (some ⟨b, 0, none⟩) 1 1, ⟨rfl, fun X hX => ⟨#[.int .u8 ((addF E t m).toNat : Int)], 5, ?_, fun j hj => ?_⟩⟩, fun d X hd hX hR1 => ?_⟩
          · simp [go_sem]
          · obtain rfl : j = 0 := by omega
            rfl
          have hX' : Ext wr X := Ext.trans ((Below.refl _ _).drew) hX
          have HOX := HO.out.ext hX'
          simp only [Act.put, List.setIfInBounds_toArray, List.set_cons_zero, List.set_cons_succ]
          refine wpList_grow elem22 rfl (.tmp 44) (.tmp 52) rfl rfl HOX ⟨d, 0, none⟩ 1 1 (fun _ => .int .u8 ((addF E t m).toNat : Int)) (yv (addF E t)) rfl (lie_of_row hR1) (fun _ _ => rfl) (fun _ _ => rfl) (fun j hj => by cases (show j = 0 by omega); rfl) (by omega) (by have := HR.out.2.2; have := Below.size hX'; omega) ?_
          intro v3 w3 ho hg
          have hlt3 := HOX.lt
          have H1 := hideit (RowAt.grown (HT.out.carry hX') hg (fun h => by have := (hlt3 c h.symm).1; omega))
          have H2 := hideit (RowAt.grown (HR.out.carry hX') hg (fun h => by have := (hlt3 (c + 1) h.symm).1; omega))
          have H3 : Hid (Ext w w3) := hideit (gr_ext (Ext.trans HE.out hX') hg (fun k h => by have := (hlt3 k h).1; omega))
          replace ho := hideit ho
          clear hg hlt3 HOX hR1 hX hX' hd HT HR HO HE
          simp only [Act.put, List.setIfInBounds_toArray, List.set_cons_zero, List.set_cons_succ]
          go_wp2
          go_roundw
          case rel =>
            first | exact ⟨(m + 1 : Nat), by omega, by go_num, H1.out, H2.out, ho.out, H3.out⟩ | ((repeat apply Exists.intro); exact ⟨⟨m + 1, by omega, by go_num, H1.out, H2.out, ho.out, H3.out⟩, rfl⟩)
          case measure => simp [intOf]; omega
        · obtain rfl : m = 16 := by omega
          have HOF : OwnB w.heap.size 5 u11 16 (yv (addF ((decF S1 ubT twT r) (addF b t)) t)) wr := by
            rw [← hf.out, ← hEE.out]
            exact ⟨HO.out.1, HO.out.2.imp id fun ⟨g, cp, cur, k1, k2, k3⟩ => ⟨g, cp, cur, k1, by omega, k3⟩⟩
          replace HOF := hideit HOF
          go_wp2
          go_ret
          exact ⟨u11, rfl, HOF.out, HE.out⟩
end Go.Proofs.Ytkoodgfadedeoaa
