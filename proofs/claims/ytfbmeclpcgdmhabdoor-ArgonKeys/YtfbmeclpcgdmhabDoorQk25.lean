/-
  What is reckoned on great numbers are the digests, the pages and the keys. A law for regions that draw their order: operations that read what the region never turns float; operations that turn memory, calls among them, stand one behind the other. One walk serves every order.
-/
import Derived.Test.YtfbmeclpcgdmhabDoorQk2
import Derived.Test.YtfbmeclpcgdmhabDoorQk24
import Derived.Test.YtfbmeclpcgdmhabDoorQk21
import Derived.Test.YtfbmeclpcgdmhabDoorQk22
import Derived.Test.YtfbmeclpcgdmhabDoorQk8
namespace Go.Proofs.YtfbmeclpcgdmhabDoor
set_option linter.unusedVariables false
theorem plG_eq (j:Nat):plG j = plF j:=rfl
theorem odG_eq (r j:Nat):odG r j = ordF r j:=rfl
theorem fc_eq {α:Type} (n:Nat) (k:Nat → α):fc n k = k n:=by cases n <;> rfl
def wf (P i:Nat):BitVec 64:=BitVec.ofNat 64 (P >>> (64 * i))
def bf (P i:Nat):BitVec 8:=BitVec.ofNat 8 (P >>> (8 * i))
theorem wd_eq (P i:Nat):wd P i = (wf P i).toNat:=by unfold wd wf; rw [BitVec.toNat_ofNat]
theorem wf_bit (P i k:Nat):(wf P i).getLsbD k = (decide (k < 64) && P.testBit (64 * i + k)):=by
  unfold wf
  rw [BitVec.getLsbD_ofNat,Nat.testBit_shiftRight]
theorem bf_bit (P i k:Nat):(bf P i).getLsbD k = (decide (k < 8) && P.testBit (8 * i + k)):=by
  unfold bf
  rw [BitVec.getLsbD_ofNat,Nat.testBit_shiftRight]
theorem wf_xor (A B i:Nat):wf (A ^^^ B) i = wf A i ^^^ wf B i:=by
  apply BitVec.eq_of_getLsbD_eq
  intro k hk
  rw [BitVec.getLsbD_xor,wf_bit,wf_bit,wf_bit,Nat.testBit_xor,decide_eq_true hk,Bool.true_and,Bool.true_and,Bool.true_and]
theorem wf_shr (A n i:Nat):wf (A >>> (64 * n)) i = wf A (n + i):=by
  unfold wf
  rw [← Nat.shiftRight_add,← Nat.mul_add]
theorem wf_shl (A n i:Nat):wf (A <<< (64 * n)) i = if i < n then 0#64 else wf A (i - n):=by
  apply BitVec.eq_of_getLsbD_eq
  intro k hk
  by_cases h:i < n
  · rw [if_pos h,wf_bit,Nat.testBit_shiftLeft,decide_eq_false (by omega:¬ 64 * i + k ≥ 64 * n)]
    simp
  · rw [if_neg h,wf_bit,wf_bit,Nat.testBit_shiftLeft,decide_eq_true (by omega:64 * i + k ≥ 64 * n),Bool.true_and,show 64 * i + k - 64 * n = 64 * (i - n) + k by omega]
theorem tp_le {a b:Nat} (h:a ≤ b):tp a ≤ 2 ^ b:=Nat.pow_le_pow_right (by decide) h
theorem tp_bit (x j i:Nat):(x % tp j).testBit i = (decide (i < j) && x.testBit i):=Nat.testBit_mod_two_pow x j i
theorem wf_mod (A n i:Nat):wf (A % tp (64 * n)) i = if i < n then wf A i else 0#64:=by
  apply BitVec.eq_of_getLsbD_eq
  intro k hk
  by_cases h:i < n
  · rw [if_pos h,wf_bit,wf_bit,tp_bit,decide_eq_true (by omega:64 * i + k < 64 * n),Bool.true_and]
  · rw [if_neg h,wf_bit,tp_bit,decide_eq_false (by omega:¬ 64 * i + k < 64 * n)]
    simp
theorem wf_small (A i:Nat) (h:A < 18446744073709551616):wf A i = if i = 0 then BitVec.ofNat 64 A else 0#64:=by
  by_cases e:i = 0
  · subst e
    rfl
  · rw [if_neg e]
    apply BitVec.eq_of_getLsbD_eq
    intro k hk
    rw [wf_bit,Nat.testBit_lt_two_pow (Nat.lt_of_lt_of_le h (by
      rw [show (18446744073709551616:Nat) = 2 ^ 64 from rfl]
      exact Nat.pow_le_pow_right (by decide) (by omega)))]
    simp
theorem wf_upd {P p o n:Nat} (ho:o = (wf P p).toNat) (hn:n < 18446744073709551616):wf (upd P p o n) = fun j=>if j = p then BitVec.ofNat 64 n else wf P j:=by
  funext j
  have h2:o ^^^ n < 18446744073709551616:=by
    rw [show (18446744073709551616:Nat) = 2 ^ 64 from rfl] at hn ⊢
    exact Nat.xor_lt_two_pow (by rw [ho]; exact (wf P p).isLt) hn
  unfold upd
  rw [wf_xor,wf_shl]
  by_cases h:j < p
  · rw [if_pos h,if_neg (by omega)]
    simp
  · rw [if_neg h,wf_small _ _ h2]
    by_cases e:j = p
    · subst e
      rw [if_pos (by omega),if_pos rfl]
      apply BitVec.eq_of_toNat_eq
      rw [BitVec.toNat_xor,BitVec.toNat_ofNat,BitVec.toNat_ofNat,Nat.mod_eq_of_lt (show _ < 2 ^ 64 from h2),Nat.mod_eq_of_lt (show n < 2 ^ 64 from hn),ho,← Nat.xor_assoc,Nat.xor_self,Nat.zero_xor]
    · rw [if_neg (by omega),if_neg e]
      simp
theorem rr_eq (a:BitVec 64) (n:Nat):rr a.toNat n = (rR n a).toNat:=by
  unfold rr rR
  rw [BitVec.toNat_or,BitVec.toNat_ushiftRight,BitVec.toNat_shiftLeft]
theorem add_eq (a b:BitVec 64):(a.toNat + b.toNat) % 18446744073709551616 = (sW a b).toNat:=by
  unfold sW
  rw [BitVec.toNat_add]
theorem xor_eq (a b:BitVec 64):a.toNat ^^^ b.toNat = (xW a b).toNat:=by
  unfold xW
  rw [BitVec.toNat_xor]
theorem gB_eq {α:Type} (a b c d x y:BitVec 64) (k:Nat → Nat → Nat → Nat → α):gB a.toNat b.toNat c.toNat d.toNat x.toNat y.toNat k = k (mix4 a b c d x y).1.toNat (mix4 a b c d x y).2.1.toNat (mix4 a b c d x y).2.2.1.toNat (mix4 a b c d x y).2.2.2.toNat:=by
  unfold gB
  simp only [fc_eq,add_eq,xor_eq,rr_eq]
  rfl
theorem wf_upd4 {V p0 p1 p2 p3:Nat} (h01:p0 ≠ p1) (h02:p0 ≠ p2) (h03:p0 ≠ p3) (h12:p1 ≠ p2) (h13:p1 ≠ p3) (h23:p2 ≠ p3) (a b c d:BitVec 64):
    wf (upd4 V p0 p1 p2 p3 (wf V p0).toNat (wf V p1).toNat (wf V p2).toNat (wf V p3).toNat a.toNat b.toNat c.toNat d.toNat) = fun j=>if j = p3 then d else if j = p2 then c else if j = p1 then b else if j = p0 then a else wf V j:=by
  have e:∀ x:BitVec 64,BitVec.ofNat 64 x.toNat = x:=fun x=>by simp
  have q0:=wf_upd (P:=V) (p:=p0) (o:=(wf V p0).toNat) (n:=a.toNat) rfl a.isLt
  have q1:=wf_upd (P:=upd V p0 (wf V p0).toNat a.toNat) (p:=p1) (o:=(wf V p1).toNat) (n:=b.toNat) (by rw [q0]; simp only []; rw [if_neg (Ne.symm h01)]) b.isLt
  have q2:=wf_upd (P:=upd (upd V p0 (wf V p0).toNat a.toNat) p1 (wf V p1).toNat b.toNat) (p:=p2) (o:=(wf V p2).toNat) (n:=c.toNat) (by rw [q1,q0]; simp only []; rw [if_neg (Ne.symm h12),if_neg (Ne.symm h02)]) c.isLt
  have q3:=wf_upd (P:=upd (upd (upd V p0 (wf V p0).toNat a.toNat) p1 (wf V p1).toNat b.toNat) p2 (wf V p2).toNat c.toNat) (p:=p3) (o:=(wf V p3).toNat) (n:=d.toNat) (by rw [q2,q1,q0]; simp only []; rw [if_neg (Ne.symm h23),if_neg (Ne.symm h13),if_neg (Ne.symm h03)]) d.isLt
  unfold upd4
  rw [q3,q2,q1,q0]
  funext j
  simp only [e]
theorem rowB_eq {V p0 p1 p2 p3:Nat} (x y:BitVec 64) (h:p0 ≠ p1 ∧ p0 ≠ p2 ∧ p0 ≠ p3 ∧ p1 ≠ p2 ∧ p1 ≠ p3 ∧ p2 ≠ p3):rowMix (wf V) p0 p1 p2 p3 x y = wf (rowB V p0 p1 p2 p3 x.toNat y.toNat):=by
  obtain ⟨h01,h02,h03,h12,h13,h23⟩:=h
  unfold rowB
  simp only [fc_eq,wd_eq,gB_eq]
  rw [wf_upd4 h01 h02 h03 h12 h13 h23]
  rfl
theorem pl_apart:∀ k,k < 8 → plF (4 * k) ≠ plF (4 * k + 1) ∧ plF (4 * k) ≠ plF (4 * k + 2) ∧ plF (4 * k) ≠ plF (4 * k + 3) ∧ plF (4 * k + 1) ≠ plF (4 * k + 2) ∧ plF (4 * k + 1) ≠ plF (4 * k + 3) ∧ plF (4 * k + 2) ≠ plF (4 * k + 3):=by decide +kernel
theorem mixN_eq (M:Nat → BitVec 64) (m r V:Nat) (hr:r < 12) (hM:∀ t,t < 16 → M t = wf m t):∀ k,k ≤ 8 → mixK (wf V) M (ordF r) k = wf (mixN m r V k)
  | 0,_=>rfl
  | k + 1,hk=>by
    unfold mixK mixN
    simp only [plG_eq,odG_eq]
    rw [mixN_eq M m r V hr hM k (by omega),fc_eq,hM _ (ord_lt r hr _ (by omega)),hM _ (ord_lt r hr _ (by omega)),rowB_eq _ _ (pl_apart k (by omega)),wd_eq,wd_eq]
theorem rndN_eq (M:Nat → BitVec 64) (m V:Nat) (hM:∀ t,t < 16 → M t = wf m t):∀ r,r ≤ 12 → rK (wf V) M r = wf (rndN m V r)
  | 0,_=>rfl
  | r + 1,hr=>by
    unfold rK rndN
    rw [rndN_eq M m V hM r (by omega),fc_eq,mixN_eq M m r _ (by omega) hM 8 (Nat.le_refl _)]
theorem iv_eq (i:Nat):fT i = wf ivN i:=by
  by_cases h:i < 8
  · revert i
    decide +kernel
  · unfold fT
    rw [List.getD_eq_getElem?_getD,List.getElem?_eq_none (by simpa [fL] using h)]
    apply BitVec.eq_of_getLsbD_eq
    intro k hk
    rw [wf_bit,Nat.testBit_lt_two_pow (Nat.lt_of_lt_of_le (by decide +kernel:ivN < tp 512) (tp_le (by omega)))]
    simp
theorem stN_eq (h:Nat → BitVec 64) (H t:Nat) (ht:t < 18446744073709551616) (last:Bool) (hh:∀ j,j < 8 → h j = wf H j):startF h (BitVec.ofNat 64 t) last = wf (stN H t last):=by
  funext j
  unfold startF stN
  rw [wf_xor,wf_mod,wf_shl]
  by_cases h8:j < 8
  · rw [if_neg (by omega),if_neg (by omega),if_pos h8,if_pos h8,if_pos h8,hh j h8]
    simp
  · have hl:(if last = true then 18446744073709551615 else 0) < 18446744073709551616:=by cases last <;> decide
    rw [if_neg h8,if_neg h8,if_neg h8,wf_xor,wf_xor,wf_shl,wf_shl,← iv_eq,wf_small _ _ ht,wf_small _ _ hl]
    by_cases e14:j = 14
    · subst e14
      rw [if_pos rfl,show (if 14 - 8 < 4 then 0#64 else if 14 - 8 - 4 = 0 then BitVec.ofNat 64 t else 0#64) = 0#64 from rfl]
      cases last <;> decide +kernel
    · rw [if_neg e14]
      by_cases e12:j = 12
      · subst e12
        simp [xW]
      · rw [if_neg e12]
        have z1:(if j - 8 < 4 then 0#64 else if j - 8 - 4 = 0 then BitVec.ofNat 64 t else 0#64) = 0#64:=by
          by_cases c:j - 8 < 4
          · rw [if_pos c]
          · rw [if_neg c,if_neg (by omega)]
        have z2:(if j - 8 < 6 then 0#64 else if j - 8 - 6 = 0 then BitVec.ofNat 64 (if last = true then 18446744073709551615 else 0) else 0#64) = 0#64:=by
          by_cases c:j - 8 < 6
          · rw [if_pos c]
          · rw [if_neg c,if_neg (by omega)]
        rw [z1,z2]
        simp
theorem pcN_eq (h:Nat → BitVec 64) (p:Nat → BitVec 8) (H m t:Nat) (ht:t < 18446744073709551616) (last:Bool) (hh:∀ j,j < 8 → h j = wf H j) (hp:∀ i,i < 16 → wordsW p i = wf m i) (j:Nat) (hj:j < 8):pieceF h p (BitVec.ofNat 64 t) last j = wf (pcN H m t last) j:=by
  unfold pieceF pcN
  rw [fc_eq,fc_eq,stN_eq h H t ht last hh,rndN_eq _ m _ hp 12 (Nat.le_refl _),hh j hj,wf_xor,wf_xor,wf_shr,BitVec.xor_assoc]
  unfold xW
  rw [Nat.add_comm]
theorem wK_congr (p p':Nat → BitVec 8):∀ n,(∀ j,j < n → p j = p' j) → wK p n = wK p' n
  | 0,_=>rfl
  | n + 1,h=>by
    funext t
    unfold wK
    rw [wK_congr p p' n fun j hj=>h j (by omega),h n (by omega)]
theorem wK_bit (p:Nat → BitVec 8):∀ n t k,k < 64 → (wK p n t).getLsbD k = (decide (8 * t + k / 8 < n) && (p (8 * t + k / 8)).getLsbD (k % 8))
  | 0,t,k,hk=>by simp [wK]
  | n + 1,t,k,hk=>by
    have ih:=wK_bit p n t k hk
    unfold wK
    by_cases e:t = n / 8
    · rw [if_pos e]
      unfold oW shB
      rw [BitVec.getLsbD_or,ih,BitVec.getLsbD_shiftLeft,BitVec.getLsbD_setWidth,decide_eq_true hk,Bool.true_and]
      by_cases c:8 * t + k / 8 < n
      · rw [decide_eq_true c,decide_eq_true (by omega:8 * t + k / 8 < n + 1),decide_eq_true (by omega:k < 8 * (n % 8))]
        simp
      · by_cases c2:8 * t + k / 8 = n
        · rw [decide_eq_false c,decide_eq_true (by omega:8 * t + k / 8 < n + 1),decide_eq_false (by omega:¬ k < 8 * (n % 8)),decide_eq_true (by omega:k - 8 * (n % 8) < 64),c2,show k - 8 * (n % 8) = k % 8 by omega]
          simp
        · rw [decide_eq_false c,decide_eq_false (by omega:¬ 8 * t + k / 8 < n + 1),decide_eq_false (by omega:¬ k < 8 * (n % 8)),BitVec.getLsbD_of_ge (p n) (k - 8 * (n % 8)) (by omega)]
          simp
    · rw [if_neg e,ih]
      by_cases c:8 * t + k / 8 < n
      · rw [decide_eq_true c,decide_eq_true (by omega:8 * t + k / 8 < n + 1)]
      · rw [decide_eq_false c,decide_eq_false (by omega:¬ 8 * t + k / 8 < n + 1)]
theorem wK_bf (N n t:Nat) (h:8 * t + 8 ≤ n):wK (bf N) n t = wf N t:=by
  apply BitVec.eq_of_getLsbD_eq
  intro k hk
  rw [wK_bit _ _ _ _ hk,wf_bit,bf_bit,decide_eq_true hk,decide_eq_true (by omega:8 * t + k / 8 < n),decide_eq_true (by omega:k % 8 < 8),show 8 * (8 * t + k / 8) + k % 8 = 64 * t + k by omega]
  rfl
theorem words_bf (p:Nat → BitVec 8) (N:Nat) (h:∀ j,j < 128 → p j = bf N j) (i:Nat) (hi:i < 16):wordsW p i = wf N i:=by
  unfold wordsW
  rw [wK_congr p (bf N) 128 h]
  exact wK_bf N 128 i (by omega)
theorem digF_bf (s:Nat → BitVec 64) (H j:Nat) (h:s (j / 8) = wf H (j / 8)):digF s j = bf H j:=by
  unfold digF
  rw [h]
  apply BitVec.eq_of_getLsbD_eq
  intro k hk
  rw [BitVec.getLsbD_setWidth,BitVec.getLsbD_ushiftRight,wf_bit,bf_bit,decide_eq_true hk,decide_eq_true (by omega:8 * (j % 8) + k < 64),show 64 * (j / 8) + (8 * (j % 8) + k) = 8 * j + k by omega]
  rfl
theorem bf_mod (A n i:Nat):bf (A % tp (8 * n)) i = if i < n then bf A i else 0#8:=by
  apply BitVec.eq_of_getLsbD_eq
  intro k hk
  by_cases h:i < n
  · rw [if_pos h,bf_bit,bf_bit,tp_bit,decide_eq_true (by omega:8 * i + k < 8 * n),Bool.true_and]
  · rw [if_neg h,bf_bit,tp_bit,decide_eq_false (by omega:¬ 8 * i + k < 8 * n)]
    simp
theorem bf_shl (A n i:Nat):bf (A <<< (8 * n)) i = if i < n then 0#8 else bf A (i - n):=by
  apply BitVec.eq_of_getLsbD_eq
  intro k hk
  by_cases h:i < n
  · rw [if_pos h,bf_bit,Nat.testBit_shiftLeft,decide_eq_false (by omega:¬ 8 * i + k ≥ 8 * n)]
    simp
  · rw [if_neg h,bf_bit,bf_bit,Nat.testBit_shiftLeft,decide_eq_true (by omega:8 * i + k ≥ 8 * n),Bool.true_and,show 8 * i + k - 8 * n = 8 * (i - n) + k by omega]
theorem bf_shr (A n i:Nat):bf (A >>> (8 * n)) i = bf A (n + i):=by
  unfold bf
  rw [← Nat.shiftRight_add,← Nat.mul_add]
theorem bf_xor (A B i:Nat):bf (A ^^^ B) i = bf A i ^^^ bf B i:=by
  apply BitVec.eq_of_getLsbD_eq
  intro k hk
  rw [BitVec.getLsbD_xor,bf_bit,bf_bit,bf_bit,Nat.testBit_xor,decide_eq_true hk,Bool.true_and,Bool.true_and,Bool.true_and]
theorem ctN_eq (A n B j:Nat):bf (ctN A n B) j = catF (bf A) n (bf B) j:=by
  unfold ctN catF
  rw [bf_xor,bf_mod,bf_shl]
  by_cases h:j < n
  · rw [if_pos h,if_pos h,if_pos h]; simp
  · rw [if_neg h,if_neg h,if_neg h]; simp
theorem four_bf (n j:Nat):fourB n j = bf n j:=by
  unfold fourB bf
  rw [Nat.shiftRight_eq_div_pow]
theorem chN_eq (h0:Nat → BitVec 64) (m:Nat → BitVec 8) (H N q:Nat) (hh:∀ j,j < 8 → h0 j = wf H j) (hq:q < 1000) (hm:∀ j,j < 128 * q → m j = bf N j):∀ k,k ≤ q → ∀ j,j < 8 → chainB h0 m k j = wf (chN H N k) j
  | 0,_,j,hj=>hh j hj
  | k + 1,hk,j,hj=>by
    unfold chainB chN
    rw [fc_eq]
    exact pcN_eq _ _ _ _ _ (by omega) false (chN_eq h0 m H N q hh hq hm k (by omega)) (words_bf _ _ fun i hi=>by rw [hm _ (by omega),bf_shr]) j hj
theorem blN_eq (h0:Nat → BitVec 64) (m:Nat → BitVec 8) (H N n:Nat) (hh:∀ j,j < 8 → h0 j = wf H j) (hn:n < 100000) (hm:∀ j,j < n → m j = bf N j) (j:Nat) (hj:j < 64):blakeF h0 m n j = bf (blN H N n) j:=by
  unfold blakeF
  have hq:qOf n = (n - 1) / 128:=rfl
  rw [hq]
  refine digF_bf _ _ _ ?_
  unfold blN
  rw [fc_eq]
  refine pcN_eq _ _ _ _ _ (by omega) true (chN_eq h0 m H N ((n - 1) / 128) hh (by omega) (fun i hi=>hm i (by omega)) _ (Nat.le_refl _)) (words_bf _ _ fun i hi=>?_) _ (by omega)
  unfold pendB
  rw [bf_mod,bf_shr]
  by_cases c:i < n - 128 * ((n - 1) / 128)
  · rw [if_pos c,if_pos c,hm _ (by omega)]
  · rw [if_neg c,if_neg c]
theorem hN_eq (nn:Nat) (h:nn ≤ 64) (j:Nat):h0F nn 0 j = wf (hN nn) j:=by
  have hs:16842752 ^^^ nn < 18446744073709551616:=by
    rw [show (18446744073709551616:Nat) = 2 ^ 64 from rfl]
    exact Nat.xor_lt_two_pow (by decide) (by omega)
  unfold h0F hN
  rw [wf_xor,← iv_eq,wf_small _ _ hs]
  by_cases e:j = 0
  · subst e
    rw [if_pos rfl,if_pos rfl]
    unfold xW k0
    congr 1
    apply BitVec.eq_of_toNat_eq
    unfold xW
    simp
  · rw [if_neg e,if_neg e]; simp
theorem bN_eq (nn:Nat) (hnn:nn ≤ 64) (m:Nat → BitVec 8) (N n:Nat) (hn:n < 100000) (hm:∀ j,j < n → m j = bf N j) (j:Nat) (hj:j < 64):bF nn m n j = bf (bN nn N n) j:=
  blN_eq _ m _ N n (fun j _=>hN_eq nn hnn j) hn hm j hj
theorem vN_eq (n:Nat) (m:Nat → BitVec 8) (N l:Nat) (hl:l < 10000) (hm:∀ j,j < l → m j = bf N j):∀ i j,j < 64 → Vd n m l i j = bf (vN n N l i) j
  | 0,j,hj=>by
    unfold Vd vN
    refine bN_eq _ (Nat.min_le_right _ _) _ _ _ (by omega) (fun k hk=>?_) j hj
    rw [ctN_eq]
    unfold catF
    by_cases c:k < 4
    · rw [if_pos c,if_pos c,four_bf]
    · rw [if_neg c,if_neg c,hm _ (by omega)]
  | i + 1,j,hj=>by
    unfold Vd vN
    rw [fc_eq]
    exact bN_eq _ (Nat.min_le_right _ _) _ _ _ (by decide) (fun k hk=>vN_eq n m N l hl hm i k hk) j hj
theorem blS_eq (x y:BitVec 64):blS x.toNat y.toNat = (blF x y).toNat:=by
  have l:∀ z:BitVec 64,(loW z).toNat = z.toNat % 4294967296:=fun z=>by
    unfold loW
    rw [BitVec.toNat_ofNat,Nat.mod_eq_of_lt (by omega)]
  unfold blS blF sW mW
  rw [BitVec.toNat_add,BitVec.toNat_add,BitVec.toNat_mul,BitVec.toNat_mul,l,l]
  rfl
theorem gS_eq {α:Type} (a b c d:BitVec 64) (k:Nat → Nat → Nat → Nat → α):gS a.toNat b.toNat c.toNat d.toNat k = k (st4 a b c d).1.toNat (st4 a b c d).2.1.toNat (st4 a b c d).2.2.1.toNat (st4 a b c d).2.2.2.toNat:=by
  unfold gS
  simp only [fc_eq,blS_eq,xor_eq,rr_eq]
  rfl
theorem rowS_eq {V p0 p1 p2 p3:Nat} (h:p0 ≠ p1 ∧ p0 ≠ p2 ∧ p0 ≠ p3 ∧ p1 ≠ p2 ∧ p1 ≠ p3 ∧ p2 ≠ p3):rowSt (wf V) p0 p1 p2 p3 = wf (rowS V p0 p1 p2 p3):=by
  obtain ⟨h01,h02,h03,h12,h13,h23⟩:=h
  unfold rowS
  simp only [fc_eq,wd_eq,gS_eq]
  rw [wf_upd4 h01 h02 h03 h12 h13 h23]
  rfl
theorem putF_at (p:Nat → BitVec 64) (pl:Nat → Nat) (s:Nat → BitVec 64):∀ n,(∀ i k,i < n → k < n → pl i = pl k → i = k) → ∀ i,i < n → putF p pl s n (pl i) = s i
  | 0,_,i,hi=>absurd hi (Nat.not_lt_zero _)
  | n + 1,h,i,hi=>by
    unfold putF
    by_cases e:i = n
    · subst e; rw [if_pos rfl]
    · rw [if_neg (fun q=>e (h i n hi (by omega) q))]
      exact putF_at p pl s n (fun a b ha hb=>h a b (by omega) (by omega)) i (by omega)
theorem putF_off (p:Nat → BitVec 64) (pl:Nat → Nat) (s:Nat → BitVec 64) (j:Nat):∀ n,(∀ i,i < n → j ≠ pl i) → putF p pl s n j = p j
  | 0,_=>rfl
  | n + 1,h=>by
    unfold putF
    rw [if_neg (h n (by omega))]
    exact putF_off p pl s j n fun i hi=>h i (by omega)
theorem put_row (p:Nat → BitVec 64) (pl:Nat → Nat) (hpl:∀ i k,i < 16 → k < 16 → pl i = pl k → i = k) (s:Nat → BitVec 64) (a b c d:Nat) (ha:a < 16) (hb:b < 16) (hc:c < 16) (hd:d < 16):
    putF p pl (rowSt s a b c d) 16 = rowSt (putF p pl s 16) (pl a) (pl b) (pl c) (pl d):=by
  funext j
  by_cases h:∃ i,i < 16 ∧ j = pl i
  · obtain ⟨i,hi,rfl⟩:=h
    rw [putF_at p pl _ 16 hpl i hi]
    unfold rowSt
    rw [putF_at p pl s 16 hpl a ha,putF_at p pl s 16 hpl b hb,putF_at p pl s 16 hpl c hc,putF_at p pl s 16 hpl d hd,putF_at p pl s 16 hpl i hi]
    have e:∀ x,x < 16 → ((pl i = pl x) ↔ (i = x)):=fun x hx=>⟨fun q=>hpl i x hi hx q,fun q=>by rw [q]⟩
    simp only [e a ha,e b hb,e c hc,e d hd]
  · have hn:∀ i,i < 16 → j ≠ pl i:=fun i hi q=>h ⟨i,hi,q⟩
    rw [putF_off p pl _ j 16 hn]
    unfold rowSt
    rw [if_neg (hn d hd),if_neg (hn c hc),if_neg (hn b hb),if_neg (hn a ha),putF_off p pl s j 16 hn]
theorem put_self (p:Nat → BitVec 64) (pl:Nat → Nat):∀ n,putF p pl (fun i=>p (pl i)) n = p
  | 0=>rfl
  | n + 1=>by
    funext j
    unfold putF
    rw [put_self p pl n]
    by_cases e:j = pl n
    · rw [if_pos e,e]
    · rw [if_neg e]
theorem lnN_eq (pl:Nat → Nat) (hpl:∀ i k,i < 16 → k < 16 → pl i = pl k → i = k) (V:Nat):∀ k,k ≤ 8 → putF (wf V) pl (stK (fun i=>wf V (pl i)) k) 16 = wf (lnN pl V k)
  | 0,_=>put_self _ _ _
  | k + 1,hk=>by
    unfold stK lnN
    simp only [plG_eq]
    have l0:=pl_lt (4 * k) (by omega)
    have l1:=pl_lt (4 * k + 1) (by omega)
    have l2:=pl_lt (4 * k + 2) (by omega)
    have l3:=pl_lt (4 * k + 3) (by omega)
    obtain ⟨d1,d2,d3,d4,d5,d6⟩:=pl_apart k (by omega)
    rw [put_row _ pl hpl _ _ _ _ _ l0 l1 l2 l3,lnN_eq pl hpl V k (by omega),fc_eq]
    exact rowS_eq ⟨fun q=>d1 (hpl _ _ l0 l1 q),fun q=>d2 (hpl _ _ l0 l2 q),fun q=>d3 (hpl _ _ l0 l3 q),fun q=>d4 (hpl _ _ l1 l2 q),fun q=>d5 (hpl _ _ l1 l3 q),fun q=>d6 (hpl _ _ l2 l3 q)⟩
theorem lsN_eq (pl:Nat → Nat → Nat) (hpl:∀ r,r < 8 → ∀ i k,i < 16 → k < 16 → pl r i = pl r k → i = k) (V:Nat):∀ k,k ≤ 8 → linesK pl (wf V) k = wf (lsN pl V k)
  | 0,_=>rfl
  | k + 1,hk=>by
    unfold linesK lsN lineS
    rw [lsN_eq pl hpl V k (by omega),fc_eq,lnN_eq (pl k) (hpl k (by omega)) _ 8 (Nat.le_refl _)]
theorem plcR_one (r:Nat) (_:r < 8) (i k:Nat) (_:i < 16) (_:k < 16) (h:pcR r i = pcR r k):i = k:=by unfold pcR at h; omega
theorem plcC_one (r:Nat) (_:r < 8) (i k:Nat) (_:i < 16) (_:k < 16) (h:pcC r i = pcC r k):i = k:=by unfold pcC at h; omega
theorem xrF_wf (A B:Nat):xrF (wf A) (wf B) = wf (A ^^^ B):=by
  funext j
  rw [wf_xor]
  rfl
theorem pgN_eq (A B:Nat):pagesF (wf A) (wf B) = wf (pgN A B):=by
  unfold pagesF pgN
  rw [show plcR = pcR from rfl,show plcC = pcC from rfl,fc_eq,fc_eq,fc_eq,xrF_wf,lsN_eq pcR plcR_one _ 8 (Nat.le_refl _),lsN_eq pcC plcC_one _ 8 (Nat.le_refl _),xrF_wf]
def pgA (M:Nat → BitVec 64) (p:Nat):Nat → BitVec 64:=fun k=>M (128 * p + k)
def upA (M:Nat → BitVec 64) (p:Nat) (y:Nat → BitVec 64):Nat → BitVec 64:=fun j=>if 128 * p ≤ j ∧ j < 128 * p + 128 then y (j - 128 * p) else M j
def zA (pass slice lane tot T:Nat):Nat → BitVec 64:=fun j=>BitVec.ofNat 64 ([pass,lane,slice,tot,T,2,1].getD j 0)
def adA (pass slice lane tot T:Nat):Nat → BitVec 64:=pagesF zP (pagesF zP (zA pass slice lane tot T))
def wdA (s L T:Nat) (M:Nat → BitVec 64) (pass slice lane k:Nat):BitVec 64:=if pass = 0 ∧ slice < 2 then adA pass slice lane (4 * s * L) T k else pgA M (ahA s slice lane k) 0
def lnA (L pass slice lane:Nat) (w:BitVec 64):Nat:=if pass = 0 ∧ slice = 0 then lane else w.toNat / 4294967296 % L
def ixA (s pass slice lane k l:Nat) (w:BitVec 64):Nat:=(fsA s pass slice + (whI ((cnA s pass slice lane k l:Nat):Int) ((w.toNat % 4294967296:Nat):Int)).toNat) % (4 * s)
def otA (s L pass slice lane k:Nat) (w:BitVec 64):Nat:=4 * s * lnA L pass slice lane w + ixA s pass slice lane k (lnA L pass slice lane w) w
def stA (s L T:Nat) (M:Nat → BitVec 64) (pass slice lane k:Nat):Nat → BitVec 64:=
  upA M (4 * s * lane + (slice * s + k)) (xrF (pgA M (4 * s * lane + (slice * s + k))) (pagesF (pgA M (ahA s slice lane k)) (pgA M (otA s L pass slice lane k (wdA s L T M pass slice lane k)))))
def flA (s L T:Nat) (M:Nat → BitVec 64) (pass slice lane:Nat):Nat → Nat → BitVec 64
  | 0=>M
  | k + 1=>if pass = 0 ∧ slice * s + k < 2 then flA s L T M pass slice lane k else stA s L T (flA s L T M pass slice lane k) pass slice lane k
def laA (s L T:Nat) (M:Nat → BitVec 64) (pass slice:Nat):Nat → Nat → BitVec 64
  | 0=>M
  | l + 1=>flA s L T (laA s L T M pass slice l) pass slice l s
def slA (s L T:Nat) (M:Nat → BitVec 64) (pass:Nat):Nat → Nat → BitVec 64
  | 0=>M
  | k + 1=>laA s L T (slA s L T M pass k) pass k L
def paA (s L T:Nat) (M:Nat → BitVec 64):Nat → Nat → BitVec 64
  | 0=>M
  | k + 1=>slA s L T (paA s L T M k) k 4
def enA (s:Nat) (M:Nat → BitVec 64):Nat → Nat → BitVec 64
  | 0=>zP
  | l + 1=>xrF (enA s M l) (pgA M (4 * s * l + (4 * s - 1)))
def bgP (sd:Nat → BitVec 8) (i l:Nat):Nat → BitVec 64:=pgW (longF 1024 (catF (catF sd 64 (fourB i)) 68 (fourB l)) 72)
def bgA (s:Nat) (sd:Nat → BitVec 8):Nat → Nat → BitVec 64
  | 0=>zP
  | l + 1=>upA (upA (bgA s sd l) (4 * s * l) (bgP sd 0 l)) (4 * s * l + 1) (bgP sd 1 l)
def keyA (n s L T:Nat) (sd:Nat → BitVec 8):Nat → BitVec 8:=longF n (digF (enA s (paA s L T (bgA s sd L) T) L)) 1024
theorem pgA_wf (N p:Nat):pgA (wf N) p = wf (N >>> (64 * (128 * p))):=by
  funext k
  rw [wf_shr]
  rfl
theorem upA_wf (N p Y:Nat):upA (wf N) p (wf Y) = wf (N ^^^ ((((N >>> (64 * (128 * p))) ^^^ Y) % tp (64 * 128)) <<< (64 * (128 * p)))):=by
  funext j
  unfold upA
  rw [wf_xor,wf_shl]
  by_cases h:j < 128 * p
  · rw [if_neg (by omega),if_pos h]; simp
  · rw [if_neg h,wf_mod]
    by_cases c:j - 128 * p < 128
    · rw [if_pos (by omega),if_pos c,wf_xor,wf_shr,show 128 * p + (j - 128 * p) = j by omega,← BitVec.xor_assoc,BitVec.xor_self,BitVec.zero_xor]
    · rw [if_neg (by omega),if_neg c]; simp
theorem zP_wf:zP = wf 0:=by
  funext j
  unfold zP wf
  simp
theorem zN_eq (pass slice lane tot T:Nat) (h0:pass < 18446744073709551616) (h1:slice < 18446744073709551616) (h2:lane < 18446744073709551616) (h3:tot < 18446744073709551616) (h4:T < 18446744073709551616):zA pass slice lane tot T = wf (zN pass slice lane tot T):=by
  funext j
  unfold zA zN
  rw [wf_xor,wf_xor,wf_xor,wf_xor,wf_xor,wf_xor,wf_shl,wf_shl,wf_shl,wf_shl,wf_shl,wf_shl,wf_small _ _ h0,wf_small _ _ h1,wf_small _ _ h2,wf_small _ _ h3,wf_small _ _ h4,wf_small 2 _ (by decide),wf_small 1 _ (by decide)]
  by_cases c:j < 7
  · rcases (by omega:j = 0 ∨ j = 1 ∨ j = 2 ∨ j = 3 ∨ j = 4 ∨ j = 5 ∨ j = 6) with rfl | rfl | rfl | rfl | rfl | rfl | rfl <;> simp
  · rw [List.getD_eq_getElem?_getD,List.getElem?_eq_none (by simpa using c),if_neg (by omega),if_neg (by omega),if_neg (by omega),if_neg (by omega),if_neg (by omega),if_neg (by omega),if_neg (by omega),if_neg (by omega),if_neg (by omega),if_neg (by omega),if_neg (by omega),if_neg (by omega),if_neg (by omega)]
    simp
theorem adN_eq (pass slice lane tot T:Nat) (h0:pass < 18446744073709551616) (h1:slice < 18446744073709551616) (h2:lane < 18446744073709551616) (h3:tot < 18446744073709551616) (h4:T < 18446744073709551616):adA pass slice lane tot T = wf (adN pass slice lane tot T):=by
  unfold adA adN
  rw [fc_eq,fc_eq,zN_eq _ _ _ _ _ h0 h1 h2 h3 h4,zP_wf,pgN_eq,pgN_eq]
theorem wN_eq (s L T N pass slice lane k:Nat) (hs:s ≤ 64) (hL:L ≤ 4) (hT:T ≤ 8) (h0:pass ≤ 8) (h1:slice ≤ 4) (h2:lane ≤ 4):wdA s L T (wf N) pass slice lane k = BitVec.ofNat 64 (wN s L T N pass slice lane k):=by
  have hm:4 * s * L ≤ 256 * 4:=Nat.mul_le_mul (by omega) hL
  unfold wdA wN
  by_cases c:pass = 0 ∧ slice < 2
  · rw [if_pos c,if_pos c,adN_eq _ _ _ _ _ (by omega) (by omega) (by omega) (by omega) (by omega),wd_eq]
    simp
  · rw [if_neg c,if_neg c,wd_eq]
    unfold pgA
    simp
theorem whI_nat (c j:Nat) (hc:1 ≤ c) (hj:j < 4294967296):(whI (c:Int) (j:Int)).toNat = c - 1 - c * (j * j / 4294967296) / 4294967296:=by
  unfold whI
  have h1:c * (j * j / 4294967296) / 4294967296 ≤ c - 1:=by
    have a1:j * j / 4294967296 < 4294967296:=by
      rw [Nat.div_lt_iff_lt_mul (by decide)]
      exact Nat.mul_lt_mul'' hj hj
    have a2:c * (j * j / 4294967296) < c * 4294967296:=Nat.mul_lt_mul_of_pos_left a1 (by omega)
    have:=Nat.div_lt_of_lt_mul (by rw [Nat.mul_comm 4294967296 c]; exact a2)
    omega
  have e:((c:Int) * ((j:Int) * (j:Int) / 4294967296) / 4294967296) = ((c * (j * j / 4294967296) / 4294967296:Nat):Int):=by
    rw [Int.natCast_ediv,Int.natCast_mul,Int.natCast_ediv,Int.natCast_mul]
    rfl
  rw [e]
  omega
theorem cn_pos (s pass slice lane k l:Nat) (hs:2 ≤ s) (hk:pass = 0 → slice = 0 → l = lane ∧ 2 ≤ k):1 ≤ cnA s pass slice lane k l:=by
  unfold cnA
  by_cases p:pass = 0
  · rw [if_pos p]
    by_cases z:slice = 0
    · have:=hk p z
      rw [if_pos this.1,z]
      omega
    · have:s ≤ slice * s:=Nat.le_mul_of_pos_left s (by omega)
      split
      · omega
      · split <;> omega
  · rw [if_neg p]
    split
    · omega
    · split <;> omega
theorem otN_eq (s L pass slice lane k:Nat) (w:BitVec 64) (hs:2 ≤ s) (hk:pass = 0 → slice = 0 → 2 ≤ k):otA s L pass slice lane k w = otN s L pass slice lane k w.toNat:=by
  unfold otA otN ixA
  rw [fc_eq,fc_eq]
  unfold lnA
  rw [whI_nat _ _ (cn_pos s pass slice lane k _ hs fun p z=>⟨by rw [if_pos ⟨p,z⟩],hk p z⟩) (Nat.mod_lt _ (by decide))]
theorem spN_eq (s L T N pass slice lane k:Nat) (hs2:2 ≤ s) (hk:pass = 0 → slice = 0 → 2 ≤ k) (hs:s ≤ 64) (hL:L ≤ 4) (hT:T ≤ 8) (h0:pass ≤ 8) (h1:slice ≤ 4) (h2:lane ≤ 4):stA s L T (wf N) pass slice lane k = wf (spN s L T N pass slice lane k):=by
  have hw:wN s L T N pass slice lane k < 18446744073709551616:=by
    unfold wN
    split
    · rw [wd_eq]; exact (wf _ _).isLt
    · rw [wd_eq]; exact (wf _ _).isLt
  unfold stA spN
  simp only [fc_eq]
  rw [wN_eq s L T N pass slice lane k hs hL hT h0 h1 h2,otN_eq s L pass slice lane k _ hs2 hk,BitVec.toNat_ofNat,Nat.mod_eq_of_lt (show _ < 2 ^ 64 from hw),pgA_wf,pgA_wf,pgA_wf,pgN_eq,xrF_wf,upA_wf,← Nat.xor_assoc,Nat.xor_self,Nat.zero_xor]
theorem flN_eq (s L T pass slice lane N:Nat) (hs2:2 ≤ s) (hs:s ≤ 64) (hL:L ≤ 4) (hT:T ≤ 8) (h0:pass ≤ 8) (h1:slice ≤ 4) (h2:lane ≤ 4):∀ k,flA s L T (wf N) pass slice lane k = wf (flN s L T pass slice lane N k)
  | 0=>rfl
  | k + 1=>by
    unfold flA flN
    rw [flN_eq s L T pass slice lane N hs2 hs hL hT h0 h1 h2 k]
    by_cases c:pass = 0 ∧ slice * s + k < 2
    · rw [if_pos c,if_pos c]
    · rw [if_neg c,if_neg c,fc_eq]
      exact spN_eq s L T _ pass slice lane k hs2 (fun p z=>by rw [z] at c; omega) hs hL hT h0 h1 h2
theorem laN_eq (s L T pass slice N:Nat) (hs2:2 ≤ s) (hs:s ≤ 64) (hL:L ≤ 4) (hT:T ≤ 8) (h0:pass ≤ 8) (h1:slice ≤ 4):∀ l,l ≤ 4 → laA s L T (wf N) pass slice l = wf (laN s L T pass slice N l)
  | 0,_=>rfl
  | l + 1,hl=>by
    unfold laA laN
    rw [laN_eq s L T pass slice N hs2 hs hL hT h0 h1 l (by omega),fc_eq,flN_eq s L T pass slice l _ hs2 hs hL hT h0 h1 (by omega)]
theorem slN_eq (s L T pass N:Nat) (hs2:2 ≤ s) (hs:s ≤ 64) (hL:L ≤ 4) (hT:T ≤ 8) (h0:pass ≤ 8):∀ k,k ≤ 4 → slA s L T (wf N) pass k = wf (slN s L T pass N k)
  | 0,_=>rfl
  | k + 1,hk=>by
    unfold slA slN
    rw [slN_eq s L T pass N hs2 hs hL hT h0 k (by omega),fc_eq,laN_eq s L T pass k _ hs2 hs hL hT h0 (by omega) L hL]
theorem paN_eq (s L T N:Nat) (hs2:2 ≤ s) (hs:s ≤ 64) (hL:L ≤ 4) (hT:T ≤ 8):∀ k,k ≤ 8 → paA s L T (wf N) k = wf (paN s L T N k)
  | 0,_=>rfl
  | k + 1,hk=>by
    unfold paA paN
    rw [paN_eq s L T N hs2 hs hL hT k (by omega),fc_eq,slN_eq s L T k _ hs2 hs hL hT (by omega) 4 (Nat.le_refl _)]
theorem enN_eq (s N:Nat):∀ l,enA s (wf N) l = wf (enN s N l)
  | 0=>zP_wf
  | l + 1=>by
    unfold enA enN
    rw [enN_eq s N l,fc_eq,pgA_wf,xrF_wf]
theorem lgN_eq (m:Nat → BitVec 8) (N l:Nat) (hl:l < 10000) (hm:∀ j,j < l → m j = bf N j):∀ i,i ≤ 31 → ∀ j,bf (lgN N l i) j = if i = 31 ∧ j < 1024 ∨ j < 32 * i then longF 1024 m l j else 0#8
  | 0,_,j=>by
    unfold lgN bf
    simp
  | i + 1,hi,j=>by
    have ih:=lgN_eq m N l hl hm i (by omega) j
    have hr:rN 1024 = 30:=by decide
    unfold lgN
    rw [fc_eq,fc_eq,bf_xor,ih,bf_shl]
    by_cases h:j < 32 * i
    · rw [if_pos h,if_pos (.inr h),if_pos (.inr (by omega))]
      simp
    · rw [if_neg h,if_neg (by omega),bf_mod]
      by_cases e:i = 30
      · subst e
        rw [if_pos rfl]
        by_cases c:j - 32 * 30 < 64
        · rw [if_pos c,if_pos (.inl ⟨rfl,by omega⟩),BitVec.zero_xor,← vN_eq 1024 m N l hl hm 30 _ c]
          unfold longF
          rw [hr,if_neg (by omega)]
        · rw [if_neg c,if_neg (by omega)]
          simp
      · rw [if_neg e]
        by_cases c:j - 32 * i < 32
        · rw [if_pos c,if_pos (.inr (by omega)),BitVec.zero_xor,← vN_eq 1024 m N l hl hm i _ (by omega)]
          unfold longF
          rw [hr,if_pos (by omega),show j / 32 = i by omega,show j % 32 = j - 32 * i by omega]
        · rw [if_neg c,if_neg (by omega)]
          simp
theorem bpN_eq (sd:Nat → BitVec 8) (S i l:Nat) (h:∀ j,j < 64 → sd j = bf S j) (t:Nat) (ht:t < 128):bgP sd i l t = wf (bpN S i l) t:=by
  unfold bgP pgW bpN
  rw [wK_congr _ (bf (lgN (ctN (ctN S 64 i) 68 l) 72 31)) 1024 fun j hj=>?_]
  · exact wK_bf _ _ _ (by omega)
  · rw [lgN_eq (catF (catF sd 64 (fourB i)) 68 (fourB l)) _ 72 (by decide) (fun k hk=>?_) 31 (Nat.le_refl _) j,if_pos (.inl ⟨rfl,hj⟩)]
    rw [ctN_eq]
    unfold catF
    by_cases c:k < 68
    · rw [if_pos c,if_pos c,ctN_eq]
      unfold catF
      by_cases c2:k < 64
      · rw [if_pos c2,if_pos c2,h k c2]
      · rw [if_neg c2,if_neg c2,four_bf]
    · rw [if_neg c,if_neg c,four_bf]
theorem upA_congr (M:Nat → BitVec 64) (p:Nat) (y y':Nat → BitVec 64) (h:∀ t,t < 128 → y t = y' t):upA M p y = upA M p y':=by
  funext j
  unfold upA
  by_cases c:128 * p ≤ j ∧ j < 128 * p + 128
  · rw [if_pos c,if_pos c,h _ (by omega)]
  · rw [if_neg c,if_neg c]
theorem bgN_eq (s:Nat) (sd:Nat → BitVec 8) (S:Nat) (h:∀ j,j < 64 → sd j = bf S j):∀ l,bgA s sd l = wf (bgN s S l)
  | 0=>zP_wf
  | l + 1=>by
    unfold bgA bgN
    simp only [fc_eq]
    rw [bgN_eq s sd S h l,upA_congr _ _ (bgP sd 0 l) _ (bpN_eq sd S 0 l h),upA_congr _ _ (bgP sd 1 l) _ (bpN_eq sd S 1 l h),upA_wf,upA_wf]
    rfl
theorem digF_wf (N j:Nat):digF (wf N) j = bf N j:=digF_bf _ _ _ rfl
theorem keN_eq (n s L T:Nat) (sd:Nat → BitVec 8) (S:Nat) (hn0:1 ≤ n) (hn:n ≤ 64) (hs2:2 ≤ s) (hs:s ≤ 64) (hL:L ≤ 4) (hT:T ≤ 8) (h:∀ j,j < 64 → sd j = bf S j) (j:Nat) (hj:j < n):keyA n s L T sd j = bf (keN n s L T S) j:=by
  unfold keyA keN
  simp only [fc_eq]
  rw [bgN_eq s sd S h L,paN_eq s L T _ hs2 hs hL hT T hT,enN_eq]
  have hr:rN n = 0:=by unfold rN; omega
  unfold longF
  rw [hr,if_neg (by omega),Nat.mul_zero,Nat.sub_zero]
  show Vd n _ 1024 0 j = _
  unfold Vd
  rw [Nat.min_eq_left hn]
  refine bN_eq n hn _ _ _ (by decide) (fun k hk=>?_) j (by omega)
  rw [ctN_eq]
  unfold catF
  by_cases c:k < 4
  · rw [if_pos c,if_pos c,four_bf]
  · rw [if_neg c,if_neg c,digF_wf,show (64 * 128:Nat) = 8 * 1024 from rfl,bf_mod,if_pos (by omega)]
theorem kn_key (sd:Nat → BitVec 8) (h:∀ j,j < 64 → sd j = bf sdN j):keyA 32 2 4 3 sd 0 = 13#8 ∧ keyA 32 2 4 3 sd 1 = 100#8 ∧ keyA 32 2 4 3 sd 2 = 13#8 ∧ keyA 32 2 4 3 sd 30 = 230#8 ∧ keyA 32 2 4 3 sd 31 = 89#8:=by
  have hk:=kn_ev
  unfold knB at hk
  rw [fc_eq] at hk
  have he:keN 32 2 4 3 sdN = k0N b0N:=by
    unfold keN k0N
    rw [fc_eq,b0_ev]
  have key:=fun j hj=>keN_eq 32 2 4 3 sd sdN (by decide) (by decide) (by decide) (by decide) (by decide) (by decide) h j hj
  rw [he] at key
  generalize k0N b0N = k at hk key
  simp only [Bool.and_eq_true,beq_iff_eq] at hk
  obtain ⟨q0,q1,q2,q3,q4⟩:=hk
  have fin:∀ j c,(k >>> (8 * j)) % 256 = c → bf k j = BitVec.ofNat 8 c:=fun j c e=>by
    unfold bf
    apply BitVec.eq_of_toNat_eq
    rw [BitVec.toNat_ofNat,BitVec.toNat_ofNat,← e]
    simp
  exact ⟨(key 0 (by decide)).trans (fin 0 _ q0),(key 1 (by decide)).trans (fin 1 _ q1),(key 2 (by decide)).trans (fin 2 _ q2),(key 30 (by decide)).trans (fin 30 _ q3),(key 31 (by decide)).trans (fin 31 _ q4)⟩
theorem kn_seed (m:Nat → BitVec 8) (h:∀ j,j < 108 → m j = bf txN j) (j:Nat) (hj:j < 64):bF 64 m 108 j = bf sdN j:=by
  rw [bN_eq 64 (by decide) m txN 108 (by decide) h j hj,← sd_ev,bf_mod,if_pos hj]
end Go.Proofs.YtfbmeclpcgdmhabDoor
namespace Go.Proofs.YtfbmeclpcgdmhabDoor
open Go.RowKit
section
variable {P:Program} {ops:Array Oper} {Q:Exit → Act → World → Prop}
def effUpon (P:Program) (R:Value → World → Prop):Result Next → Prop
  | .ok (.value v) w'=>R v w'
  | .ok .skip w'=>R undef w'
  | .ok (.enter f args) w'=>Calls P f args w' fun e w''=>∃ v,e = .returned v ∧ R v w''
  | _=>False
def EffY (P:Program) (ops:Array Oper) (o:Oper) (w:World) (R:Value → World → Prop) (a:Act):Prop:=
  (Region.wanted o (yielded ops a.tmps) = true ∧ effUpon P R ((execOp a.eval o).run P w)) ∨ (Region.wanted o (yielded ops a.tmps) = false ∧ R undef w)
theorem effUpon_mono {R R':Value → World → Prop} (h:∀ v w,R v w → R' v w):∀ r:Result Next,effUpon P R r → effUpon P R' r
  | .ok (.value _) _,hh=>h _ _ hh
  | .ok .skip _,hh=>h _ _ hh
  | .ok (.enter _ _) _,hh=>Calls.mono hh fun _ _ ⟨v,e,hr⟩=>⟨v,e,h _ _ hr⟩
theorem EffY.mono {o:Oper} {w:World} {R R':Value → World → Prop} {a:Act} (h:∀ v w,R v w → R' v w) (hy:EffY P ops o w R a):EffY P ops o w R' a:=by
  rcases hy with ⟨h1,h2⟩ | ⟨h1,h2⟩
  · exact .inl ⟨h1,effUpon_mono h _ h2⟩
  · exact .inr ⟨h1,h _ _ h2⟩
theorem EffY.put {o:Oper} {w:World} {R:Value → World → Prop} {u:Value} {a:Act} {d:Option Tmp} (hs:∀ cs b,o.op ≠ .select cs b) (h:∀ t,d = some t → t ∉ o.looksAt ops):EffY P ops o w R (a.put d u) ↔ EffY P ops o w R a:=by
  unfold EffY
  rw [execOp_put (ops:=ops) o hs a d u h,wanted_put o a d u h]
theorem EffY.wpOp {i:Nat} {o:Oper} {a:Act} {w:World} {R:Value → World → Prop} {K:Act → World → Prop} (hi:ops[i]? = some o) (hy:EffY P ops o w R a) (hK:∀ v w',R v w' → K (a.put o.dst v) w'):wpOp P ops Q i K a w:=by
  unfold Go.wpOp
  rw [hi]
  rcases hy with ⟨h1,h2⟩ | ⟨h1,h2⟩
  · simp only [h1,if_true]
    refine .inl ?_
    unfold Oper.wp
    generalize (execOp a.eval o).run P w = r at *
    cases r with
    | ok n w'=>
      cases n <;> simp only [effUpon] at h2 <;> simp only [Oper.upon]
      case value u=>exact hK _ _ h2
      case skip=>exact hK _ _ h2
      case enter f args=>exact h2.mono fun e w'' ⟨v,he,hr⟩=>by subst he; exact hK _ _ hr
    | halt x w'=>simp only [effUpon] at h2
  · simp only [h1,Bool.false_eq_true,if_false]
    exact hK _ _ h2
def wpX (P:Program) (ops:Array Oper) (Q:Exit → Act → World → Prop):List (Bool × Nat) → (World → Prop) → Act → World → Prop
  | [],_,a,w=>Q .normal a w
  | (false,i) :: r,C,a,w=>∃ o v,ops[i]? = some o ∧ StrC P ops C o v a ∧ wpX P ops Q r C (a.put o.dst v) w
  | (true,i) :: r,C,a,w=>∃ o,ops[i]? = some o ∧ EffY P ops o w (fun v w'=>∃ C':World → Prop,(∀ X,C' X → C X) ∧ C' w' ∧ wpX P ops Q r C' (a.put o.dst v) w') a
theorem StrC.mono {C C':World → Prop} {o:Oper} {v:Value} {a:Act} (hy:StrC P ops C o v a) (h:∀ X,C' X → C X):StrC P ops C' o v a:=by
  rcases hy with ⟨h1,h2⟩ | h2
  · exact .inl ⟨h1,fun w hw=>h2 w (h w hw)⟩
  · exact .inr h2
theorem wpX_float {C:World → Prop} (hsel:∀ (j:Nat) (o:Oper) cs b,ops[j]? = some o → o.op ≠ .select cs b) {i:Nat} {o:Oper} (hi:ops[i]? = some o) (s2:List (Bool × Nat)) {w:World}:∀ (s1:List (Bool × Nat)) (a:Act),(∀ p ∈ s1,p.1 = false ∧ ∀ ok,ops[p.2]? = some ok → ok.apart ops o = true) →
    wpX P ops Q (s1 ++ (false,i) :: s2) C a w → ∃ v,StrC P ops C o v a ∧ wpX P ops Q (s1 ++ s2) C (a.put o.dst v) w
  | [],a,_,⟨o',v,h1,h2,h3⟩=>by
    rw [hi] at h1
    injection h1 with h1
    subst h1
    exact ⟨v,h2,h3⟩
  | (true,k) :: s1,a,hap,h=>by have:=(hap (true,k) List.mem_cons_self).1; cases this
  | (false,k) :: s1,a,hap,⟨ok,vk,h1,h2,h3⟩=>by
    obtain ⟨p1,p2,p3⟩:=Oper.apart_spec ((hap (false,k) List.mem_cons_self).2 ok h1)
    obtain ⟨v,g1,g2⟩:=wpX_float hsel hi s2 s1 _ (fun k' hk'=>hap k' (List.mem_cons_of_mem _ hk')) h3
    refine ⟨v,(StrC.put (fun cs b=>hsel i o cs b hi) p1).1 g1,ok,vk,h1,(StrC.put (fun cs b=>hsel k ok cs b h1) p3).2 h2,?_⟩
    rw [← Act.put_comm a vk v p2]
    exact g2
theorem wpX_stand {C:World → Prop} (hsel:∀ (j:Nat) (o:Oper) cs b,ops[j]? = some o → o.op ≠ .select cs b) {i:Nat} {o:Oper} (hi:ops[i]? = some o) (s2:List (Bool × Nat)) {w:World}:∀ (s1:List (Bool × Nat)) (a:Act),(∀ p ∈ s1,p.1 = false ∧ ∀ ok,ops[p.2]? = some ok → ok.apart ops o = true) →
    wpX P ops Q (s1 ++ (true,i) :: s2) C a w → EffY P ops o w (fun v w'=>∃ C':World → Prop,(∀ X,C' X → C X) ∧ C' w' ∧ wpX P ops Q (s1 ++ s2) C' (a.put o.dst v) w') a
  | [],a,_,⟨o',h1,h2⟩=>by
    rw [hi] at h1
    injection h1 with h1
    subst h1
    exact h2
  | (true,k) :: s1,a,hap,h=>by have:=(hap (true,k) List.mem_cons_self).1; cases this
  | (false,k) :: s1,a,hap,⟨ok,vk,h1,h2,h3⟩=>by
    obtain ⟨p1,p2,p3⟩:=Oper.apart_spec ((hap (false,k) List.mem_cons_self).2 ok h1)
    have g:=wpX_stand hsel hi s2 s1 _ (fun k' hk'=>hap k' (List.mem_cons_of_mem _ hk')) h3
    refine EffY.mono (fun v w' ⟨C',c1,c2,c3⟩=>⟨C',c1,c2,ok,vk,h1,((StrC.put (fun cs b=>hsel k ok cs b h1) p3).2 h2).mono c1,?_⟩) ((EffY.put (fun cs b=>hsel i o cs b hi) p1).1 g)
    rw [← Act.put_comm a vk v p2]
    exact c3
def lfx (L:Array Bool) (l:List (Bool × Nat)):List (Bool × Nat):=l.filter fun p => !L.getD p.2 true
theorem lfx_split {R:Bool × Nat → Bool × Nat → Prop} {L:Array Bool} {l:List (Bool × Nat)} {p:Bool × Nat} (hn:(l.map (·.2)).Nodup) (hp:l.Pairwise R) (hi:p ∈ l) (hL:L.getD p.2 true = false):
    ∃ r1 r2,lfx L l = r1 ++ p :: r2 ∧ lfx (L.setIfInBounds p.2 true) l = r1 ++ r2 ∧ ∀ k ∈ r1,R k p ∧ L.getD k.2 true = false:=by
  obtain ⟨s,t,rfl⟩:=List.append_of_mem hi
  rw [List.map_append,List.map_cons] at hn
  obtain ⟨_,n2,n3⟩:=List.nodup_append.1 hn
  have n4:=(List.nodup_cons.1 n2).1
  obtain ⟨_,_,q3⟩:=List.pairwise_append.1 hp
  have hne:∀ k,k ≠ p.2 → (L.setIfInBounds p.2 true).getD k true = L.getD k true:=fun k hk=>getD_set_ne true (Ne.symm hk)
  have hself:(L.setIfInBounds p.2 true).getD p.2 true = true:=by
    unfold Array.getD
    split
    · simp
    · rfl
  refine ⟨s.filter fun k => !L.getD k.2 true,t.filter fun k => !L.getD k.2 true,?_,?_,?_⟩
  · unfold lfx
    rw [List.filter_append,List.filter_cons,if_pos (by simp [hL])]
  · unfold lfx
    rw [List.filter_append,List.filter_cons,if_neg (by simp [hself])]
    congr 1
    · exact List.filter_congr fun k hk=>by rw [hne k.2 (n3 k.2 (List.mem_map_of_mem hk) p.2 List.mem_cons_self)]
    · exact List.filter_congr fun k hk=>by rw [hne k.2 (fun e=>n4 (e ▸ List.mem_map_of_mem hk))]
  · intro k hk
    obtain ⟨hk1,hk2⟩:=List.mem_filter.1 hk
    exact ⟨q3 k hk1 p List.mem_cons_self,by simpa using hk2⟩
def reachA (ops:Array Oper) (k:Nat):Nat → List Bool
  | 0 => []
  | n + 1=>reachA ops k n ++ [match ops[n]? with
    | some o=>o.after.any fun e=>Region.binds .any e && (e.on == k || (reachA ops k n).getD e.on false)
    | none=>false]
theorem reachA_length (k:Nat):∀ n,(reachA ops k n).length = n
  | 0=>rfl
  | n + 1=>by simp [reachA,reachA_length k n]
theorem reachA_listed {L:Array Bool} (hC:Closed ops L) (k:Nat):∀ n j,(reachA ops k n).getD j false = true → L.getD j false = true → L.getD k false = true
  | 0,j,h,_=>by simp [reachA] at h
  | n + 1,j,h,hj=>by
    by_cases hjn:j < n
    · refine reachA_listed hC k n j ?_ hj
      rw [List.getD_eq_getElem?_getD] at h ⊢
      rwa [reachA,List.getElem?_append_left (by rw [reachA_length]; exact hjn)] at h
    · by_cases hjn2:j = n
      · subst hjn2
        rw [reachA,List.getD_eq_getElem?_getD,List.getElem?_append_right (by rw [reachA_length]; exact Nat.le_refl _),reachA_length] at h
        simp only [Nat.sub_self,List.getElem?_cons_zero,Option.getD_some] at h
        cases ho:ops[j]? with
        | none=>rw [ho] at h; cases h
        | some o=>
          rw [ho] at h
          obtain ⟨e,he,h2⟩:=Array.any_eq_true'.1 h
          simp only [Bool.and_eq_true,Bool.or_eq_true,beq_iff_eq] at h2
          have h3:=hC j o ho hj e he h2.1
          rcases h2.2 with h4 | h4
          · rw [← h4]; exact h3
          · exact reachA_listed hC k j e.on h4 h3
      · rw [List.getD_eq_getElem?_getD,List.getElem?_eq_none (by rw [reachA_length]; omega)] at h
        cases h
def reachB (ops:Array Oper) (j k:Nat):Bool:=match ops[j]? with
  | some o=>o.after.any fun e=>Region.binds .any e && (e.on == k || (reachA ops k j).getD e.on false)
  | none=>false
theorem reachB_listed {L:Array Bool} (hC:Closed ops L) (j k:Nat) (o:Oper) (ho:ops[j]? = some o) (hd:∀ e ∈ o.after,Region.binds .any e = true → L.getD e.on false = true) (h:reachB ops j k = true):L.getD k false = true:=by
  unfold reachB at h
  rw [ho] at h
  obtain ⟨e,he,h2⟩:=Array.any_eq_true'.1 h
  simp only [Bool.and_eq_true,Bool.or_eq_true,beq_iff_eq] at h2
  have h3:=hd e he h2.1
  rcases h2.2 with h4 | h4
  · rw [← h4]; exact h3
  · exact reachA_listed hC k j e.on h4 h3
def ladB (ops:Array Oper) (p q:Bool × Nat):Bool:=if p.1 then reachB ops q.2 p.2 else edgeB ops p.2 q.2
structure LadAt (P:Program) (ops:Array Oper) (Q:Exit → Act → World → Prop) (l:List (Bool × Nat)) (L:Array Bool) (A:Act) (w:World):Prop where
  size:L.size = ops.size
  closed:Closed ops L
  way:∃ C:World → Prop,C w ∧ wpX P ops Q (lfx L l) C A w
theorem wp_region_lad {id:Nat} {a:Act} {w:World} (C:World → Prop) (l:List (Bool × Nat)) (hmo:P.follows .mixedOrders = true) (hB:textB ops = true) (hnd:(l.map (·.2)).Nodup) (hcov:∀ i ∈ List.range ops.size,i ∈ l.map (·.2)) (hin:∀ p ∈ l,p.2 < ops.size)
    (hp:l.Pairwise (fun p q=>ladB ops p q = true)) (hC:C w.drew) (h:wpX P ops Q l C a w.drew):(Code.region id ops true).wp P Q a w:=by
  obtain ⟨hsel,htx⟩:=textB_spec hB
  refine wp_region_inv (I:=fun L A X=>LadAt P ops Q l L A X) hmo ?h0 ?hs ?he
  case h0=>
    have hf0:∀ k d,k < ops.size → (Array.replicate ops.size false).getD k d = false:=fun k d hk=>by unfold Array.getD; simp [hk]
    refine ⟨by simp,?_,C,hC,?_⟩
    · intro i o ho hi
      rw [hf0 i _ (Array.getElem?_eq_some_iff.1 ho).1] at hi
      cases hi
    · rw [show lfx (Array.replicate ops.size false) l = l from List.filter_eq_self.2 fun p hpm=>by simp [hf0 p.2 true (hin p hpm)]]
      exact h
  case hs=>
    intro L A X i o hI ho hl hdeps
    have hil:i < ops.size:=(Array.getElem?_eq_some_iff.1 ho).1
    have hsize:(L.setIfInBounds i true).size = ops.size:=by simp [hI.size]
    have hclosed:=hI.closed.step ho hdeps
    have hap:∀ k,edgeB ops k i = true → L.getD k true = false → ∀ ok,ops[k]? = some ok → ok.apart ops o = true:=by
      intro k hed hk ok hok
      rcases edgeB_spec ho hok hed with ⟨e,he,hbe,rfl⟩ | h2
      · have h3:=hdeps e he hbe
        rw [getD_flip hk] at h3
        cases h3
      · exact h2
    have hwt:∀ k,reachB ops i k = true → L.getD k false = true:=fun k hk=>reachB_listed hI.closed i k o ho hdeps hk
    obtain ⟨p,hpl,rfl⟩:=List.mem_map.1 (hcov i (by simpa using hil))
    obtain ⟨r1,r2,s1,s2,s3⟩:=lfx_split hnd hp hpl hl
    have hr1:∀ q ∈ r1,q.1 = false ∧ ∀ ok,ops[q.2]? = some ok → ok.apart ops o = true:=by
      intro q hq
      obtain ⟨t1,t2⟩:=s3 q hq
      unfold ladB at t1
      cases hb:q.1 with
      | true=>
        rw [hb,if_pos rfl] at t1
        have:=hwt _ t1
        rw [getD_flip t2] at this
        cases this
      | false=>
        rw [hb,if_neg (by simp)] at t1
        exact ⟨rfl,hap q.2 t1 t2⟩
    obtain ⟨C1,hC1,hw⟩:=hI.way
    rw [s1] at hw
    obtain ⟨b,i⟩:=p
    cases b with
    | false=>
      obtain ⟨v,g1,g2⟩:=wpX_float hsel ho r2 r1 A hr1 hw
      exact StrC.wpOp ho hC1 g1 ⟨hsize,hclosed,C1,hC1,by rw [s2]; exact g2⟩
    | true=>exact EffY.wpOp ho (wpX_stand hsel ho r2 r1 A hr1 hw) fun v w' ⟨C',c1,c2,c3⟩=>⟨hsize,hclosed,C',c2,by rw [s2]; exact c3⟩
  case he=>
    intro L A X hI hr
    have hall:∀ n k,k < n → k < ops.size → L.getD k false = true:=by
      intro n
      induction n with
      | zero=>intro k hk; omega
      | succ n ih=>
        intro k hk hkn
        cases hv:L.getD k false with
        | true=>rfl
        | false=>
          exfalso
          have ho:ops[k]? = some ops[k]:=Array.getElem?_eq_getElem hkn
          have hmem:k ∈ Region.ready .any ops L:=mem_ready.2 ⟨by rw [← getD_flip' (by rw [hI.size]; omega)]; exact hv,ops[k],ho,fun e he hbe=>ih e.on (by have:=htx k _ ho e he hbe; omega) (by have:=htx k _ ho e he hbe; omega)⟩
          rw [hr] at hmem
          cases hmem
    obtain ⟨C1,hC1,hw⟩:=hI.way
    rw [show lfx L l = [] from List.filter_eq_nil_iff.2 fun p hpm=>by
      have:=hall (p.2 + 1) p.2 (by omega) (hin p hpm)
      rw [getD_flip' (by rw [hI.size]; exact hin p hpm)] at this
      simp [this]] at hw
    exact hw
theorem wpX_nil {C:World → Prop} {a:Act} {w:World} (h:Q .normal a w):wpX P ops Q [] C a w:=h
theorem wpX_f {C:World → Prop} {a:Act} {w:World} {i:Nat} {r:List (Bool × Nat)} (o:Oper) (v:Value) (ho:ops[i]? = some o) (hw:Region.wanted o (yielded ops a.tmps) = true) (hr:∀ X,C X → (execOp a.eval o).run P X = .ok (.value v) X) (h:wpX P ops Q r C (a.put o.dst v) w):wpX P ops Q ((false,i) :: r) C a w:=⟨o,v,ho,.inl ⟨hw,hr⟩,h⟩
theorem wpX_call {C:World → Prop} {a:Act} {w:World} {i:Nat} {r:List (Bool × Nat)} (o:Oper) {f:FuncId} {args:Array Value} (ho:ops[i]? = some o) (hw:Region.wanted o (yielded ops a.tmps) = true) (hr:(execOp a.eval o).run P w = .ok (.enter f args) w)
    (hc:Calls P f args w fun e w'=>∃ v,e = .returned v ∧ ∃ C':World → Prop,(∀ X,C' X → C X) ∧ C' w' ∧ wpX P ops Q r C' (a.put o.dst v) w'):wpX P ops Q ((true,i) :: r) C a w:=⟨o,ho,.inl ⟨hw,by rw [hr]; exact hc⟩⟩
theorem wpX_to {C:World → Prop} {a:Act} {w:World} {i:Nat} {r:List (Bool × Nat)} (o:Oper) (v:Value) (w':World) (ho:ops[i]? = some o) (hw:Region.wanted o (yielded ops a.tmps) = true) (hr:(execOp a.eval o).run P w = .ok (.value v) w') (C':World → Prop) (h1:∀ X,C' X → C X) (h2:C' w') (h:wpX P ops Q r C' (a.put o.dst v) w'):wpX P ops Q ((true,i) :: r) C a w:=⟨o,ho,.inl ⟨hw,by rw [hr]; exact ⟨C',h1,h2,h⟩⟩⟩
theorem wpX_st {C:World → Prop} {a:Act} {w:World} {i:Nat} {r:List (Bool × Nat)} (o:Oper) (w':World) (ho:ops[i]? = some o) (hw:Region.wanted o (yielded ops a.tmps) = true) (hr:(execOp a.eval o).run P w = .ok .skip w') (C':World → Prop) (h1:∀ X,C' X → C X) (h2:C' w') (h:wpX P ops Q r C' (a.put o.dst undef) w'):wpX P ops Q ((true,i) :: r) C a w:=⟨o,ho,.inl ⟨hw,by rw [hr]; exact ⟨C',h1,h2,h⟩⟩⟩
end
end Go.Proofs.YtfbmeclpcgdmhabDoor
