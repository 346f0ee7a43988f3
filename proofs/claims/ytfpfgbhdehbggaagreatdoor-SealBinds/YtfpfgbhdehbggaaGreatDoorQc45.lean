/-
  States packed into great numbers: the functions themselves reckoned, step by step. AES and XTS with states packed into great numbers. What must come of every program.
-/
import Derived.Test.YtfpfgbhdehbggaaGreatDoorQc12
import Derived.Test.YtfpfgbhdehbggaaGreatDoorQc6
import Derived.Test.YtfpfgbhdehbggaaGreatDoorQc29
import Derived.Test.YtfpfgbhdehbggaaGreatDoorQc26
import Derived.Test.YtfpfgbhdehbggaaGreatDoorQc1
import Derived.Test.YtfpfgbhdehbggaaGreatDoorQc44
import Derived.Test.YtfpfgbhdehbggaaGreatDoorQc42
import Derived.Test.YtfpfgbhdehbggaaGreatDoorQc30
namespace Go.Proofs.YtfpfgbhdehbggaaGreatDoor
set_option linter.unusedVariables false
set_option maxRecDepth 20000
def fk {α : Type} (n : Nat) (k : Nat → α) : α := match n with | 0 => k 0 | m + 1 => k (m + 1)
theorem fk_eq {α : Type} (n : Nat) (k : Nat → α) : fk n k = k n := by cases n <;> rfl
def un (w P i : Nat) : BitVec w := BitVec.ofNat w (P >>> (w * i))
def pkW (w : Nat) (g : Nat → BitVec w) : Nat → Nat
  | 0 => 0
  | n + 1 => fk (pkW w g n) fun a => fk (g n).toNat fun b => a + (b <<< (w * n))
def Rp (w n P : Nat) (g : Nat → BitVec w) : Prop := P < 2 ^ (w * n) ∧ ∀ i, i < n → un w P i = g i
theorem un_lo {w n P Q i : Nat} (hi : i < n) : un w (P + Q <<< (w * n)) i = un w P i := by
  apply BitVec.eq_of_toNat_eq
  unfold un
  rw [BitVec.toNat_ofNat, BitVec.toNat_ofNat, Nat.shiftRight_eq_div_pow, Nat.shiftRight_eq_div_pow, Nat.shiftLeft_eq]
  have h1 : w * n = w * i + w * (n - i - 1) + w := by rw [← Nat.mul_add, ← Nat.mul_succ]; congr 1; omega
  have h2 : Q * 2 ^ (w * n) = Q * 2 ^ (w * (n - i - 1)) * 2 ^ w * 2 ^ (w * i) := by rw [h1, Nat.pow_add, Nat.pow_add]; simp only [Nat.mul_comm, Nat.mul_left_comm]
  rw [h2, Nat.add_mul_div_right _ _ (Nat.two_pow_pos _), Nat.add_mul_mod_self_right]
theorem un_hi {w n P Q i : Nat} (hP : P < 2 ^ (w * n)) : un w (P + Q <<< (w * n)) (n + i) = un w Q i := by
  apply BitVec.eq_of_toNat_eq
  unfold un
  rw [BitVec.toNat_ofNat, BitVec.toNat_ofNat, Nat.shiftRight_eq_div_pow, Nat.shiftRight_eq_div_pow, Nat.shiftLeft_eq, Nat.mul_add, Nat.pow_add, ← Nat.div_div_eq_div_mul, Nat.add_mul_div_right _ _ (Nat.two_pow_pos _), Nat.div_eq_of_lt hP, Nat.zero_add]
theorem Rp.app {w n m P Q : Nat} {g h : Nat → BitVec w} (hP : Rp w n P g) (hQ : Rp w m Q h) : Rp w (n + m) (P + Q <<< (w * n)) fun i => if i < n then g i else h (i - n) := by
  refine ⟨?_, fun i hi => ?_⟩
  · rw [Nat.shiftLeft_eq, Nat.mul_add, Nat.pow_add]
    have h1 := hP.1
    have h2 : (Q + 1) * 2 ^ (w * n) ≤ 2 ^ (w * m) * 2 ^ (w * n) := Nat.mul_le_mul_right _ hQ.1
    rw [Nat.add_mul, Nat.one_mul] at h2
    rw [Nat.mul_comm (2 ^ (w * n))]
    omega
  · show _ = if i < n then g i else h (i - n)
    by_cases e : i < n
    · rw [if_pos e, un_lo e, hP.2 i e]
    · rw [if_neg e, show i = n + (i - n) by omega, un_hi hP.1, hQ.2 _ (by omega)]
      congr 1
      omega
theorem Rp.congr {w n P : Nat} {g h : Nat → BitVec w} (hP : Rp w n P g) (k : ∀ i, i < n → g i = h i) : Rp w n P h := ⟨hP.1, fun i hi => (hP.2 i hi).trans (k i hi)⟩
theorem rp_one {w : Nat} (x : BitVec w) : Rp w 1 x.toNat fun _ => x := ⟨by rw [Nat.mul_one]; exact x.isLt, fun i hi => by
  obtain rfl : i = 0 := by omega
  unfold un
  rw [Nat.mul_zero, Nat.shiftRight_zero, BitVec.ofNat_toNat, BitVec.setWidth_eq]⟩
theorem pk_rp (w : Nat) (g : Nat → BitVec w) : ∀ n, Rp w n (pkW w g n) g
  | 0 => ⟨by show 0 < _; exact Nat.two_pow_pos _, fun i hi => by omega⟩
  | n + 1 => by
    show Rp w (n + 1) (fk (pkW w g n) fun a => fk (g n).toNat fun b => a + (b <<< (w * n))) g
    rw [fk_eq, fk_eq]
    refine ((pk_rp w g n).app (rp_one (g n))).congr fun i hi => ?_
    by_cases e : i < n
    · rw [if_pos e]
    · rw [if_neg e, show i = n by omega]
theorem pk_at {w : Nat} {g : Nat → BitVec w} {n i : Nat} (hi : i < n) : un w (pkW w g n) i = g i := (pk_rp w g n).2 i hi
def wsN (p : Nat → BitVec 8) : Nat → Nat
  | 0 => pkW 32 (w0 p) 16
  | m + 1 => fk (wsN p m) fun P => fk (nextW (un 32 P) (16 + m)).toNat fun x => P + (x <<< (32 * (16 + m)))
theorem ws_rp (p : Nat → BitVec 8) : ∀ m, Rp 32 (16 + m) (wsN p m) (wK p m)
  | 0 => (pk_rp 32 (w0 p) 16).congr fun i hi => by show _ = if i < 16 then w0 p i else 0#32; rw [if_pos hi]
  | m + 1 => by
    have ih := ws_rp p m
    show Rp 32 (16 + m + 1) (fk (wsN p m) fun P => fk (nextW (un 32 P) (16 + m)).toNat fun x => P + (x <<< (32 * (16 + m)))) _
    rw [fk_eq, fk_eq]
    have hn : nextW (un 32 (wsN p m)) (16 + m) = nextW (wK p m) (16 + m) := by
      unfold nextW
      rw [ih.2 _ (by omega), ih.2 _ (by omega), ih.2 _ (by omega), ih.2 _ (by omega)]
    rw [hn]
    refine (ih.app (rp_one _)).congr fun i hi => ?_
    show (if i < 16 + m then wK p m i else nextW (wK p m) (16 + m)) = if i = 16 + m then nextW (wK p m) (16 + m) else wK p m i
    by_cases e : i < 16 + m
    · rw [if_pos e, if_neg (by omega)]
    · rw [if_neg e, if_pos (by omega)]
def rsN (W s : Nat → BitVec 32) : Nat → Nat
  | 0 => pkW 32 s 8
  | n + 1 => fk (rsN W s n) fun P => pkW 32 (rnd (kT n) (W n) (un 32 P)) 8
theorem rs_at (W W' s s' : Nat → BitVec 32) (hs : ∀ j, j < 8 → s j = s' j) : ∀ n, (∀ i, i < n → W i = W' i) → ∀ j, j < 8 → un 32 (rsN W s n) j = rndK W' s' n j
  | 0, _, j, hj => (pk_at hj).trans (hs j hj)
  | n + 1, hW, j, hj => by
    show un 32 (fk (rsN W s n) fun P => pkW 32 (rnd (kT n) (W n) (un 32 P)) 8) j = rnd (kT n) (W' n) (rndK W' s' n) j
    rw [fk_eq, pk_at hj, hW n (by omega)]
    exact rnd_congr _ _ _ _ (rs_at W W' s s' hs n fun i hi => hW i (by omega)) j hj
def chN (m : Nat → BitVec 8) : Nat → Nat
  | 0 => pkW 32 fT 8
  | k + 1 => fk (chN m k) fun S => fk (wsN (fun j => m (64 * k + j)) 48) fun W => fk (rsN (un 32 W) (un 32 S) 64) fun R => pkW 32 (fun j => sW (un 32 S j) (un 32 R j)) 8
theorem ch_at (m : Nat → BitVec 8) : ∀ k, ∀ j, j < 8 → un 32 (chN m k) j = chain m k j
  | 0, j, hj => pk_at hj
  | k + 1, j, hj => by
    have ih := ch_at m k
    show un 32 (fk (chN m k) fun S => fk (wsN (fun j => m (64 * k + j)) 48) fun W => fk (rsN (un 32 W) (un 32 S) 64) fun R => pkW 32 (fun j => sW (un 32 S j) (un 32 R j)) 8) j = sW (chain m k j) (rndK (wordsW fun j => m (64 * k + j)) (chain m k) 64 j)
    rw [fk_eq, fk_eq, fk_eq, pk_at hj, ih j hj, rs_at _ (wordsW fun j => m (64 * k + j)) _ (chain m k) ih 64 (fun i hi => (ws_rp _ 48).2 i (by omega)) j hj]
def shN (m : Nat → BitVec 8) (n : Nat) : Nat := fk (chN (fillF m n) (pieces n)) fun S => pkW 8 (digF (un 32 S)) 32
theorem sh_at (m : Nat → BitVec 8) (n j : Nat) (hj : j < 32) : un 8 (shN m n) j = shaF m n j := by
  show un 8 (fk (chN (fillF m n) (pieces n)) fun S => pkW 8 (digF (un 32 S)) 32) j = digF (chain (fillF m n) (pieces n)) j
  rw [fk_eq, pk_at hj]
  unfold digF
  rw [ch_at _ _ _ (by omega)]
theorem cat_congr {m m' b b' : Nat → BitVec 8} {n k : Nat} (h1 : ∀ i, i < n → m i = m' i) (h2 : ∀ i, i < k → b i = b' i) (j : Nat) (hj : j < n + k) : catF m n b j = catF m' n b' j := by
  unfold catF
  by_cases e : j < n
  · rw [if_pos e, if_pos e, h1 j e]
  · rw [if_neg e, if_neg e, h2 _ (by omega)]
def tgN (l : Nat) (key m : Nat → BitVec 8) (n : Nat) : Nat := fk (pkW 8 (readyF l key) 64) fun R => fk (shN (catF (maskF (un 8 R) 54#8) 64 m) (64 + n)) fun d => shN (catF (maskF (un 8 R) 92#8) 64 (un 8 d)) 96
theorem tg_at (l : Nat) (key m : Nat → BitVec 8) (n j : Nat) (hj : j < 32) : un 8 (tgN l key m n) j = tagF l key m n j := by
  unfold tgN
  rw [fk_eq, fk_eq, sh_at _ _ _ hj]
  unfold tagF
  have hR : ∀ x i, i < 64 → maskF (un 8 (pkW 8 (readyF l key) 64)) x i = maskF (readyF l key) x i := fun x i hi => by unfold maskF; rw [pk_at hi]
  have h1 : ∀ i, i < 64 + n → catF (maskF (un 8 (pkW 8 (readyF l key) 64)) 54#8) 64 m i = catF (maskF (readyF l key) 54#8) 64 m i := cat_congr (hR _) fun _ _ => rfl
  have h2 : ∀ i, i < 32 → un 8 (shN (catF (maskF (un 8 (pkW 8 (readyF l key) 64)) 54#8) 64 m) (64 + n)) i = shaF (catF (maskF (readyF l key) 54#8) 64 m) (64 + n) i := fun i hi => by
    rw [sh_at _ _ _ hi, shaF_congr _ _ _ h1]
  have h3 : ∀ i, i < 64 + 32 → catF (maskF (un 8 (pkW 8 (readyF l key) 64)) 92#8) 64 (un 8 (shN (catF (maskF (un 8 (pkW 8 (readyF l key) 64)) 54#8) 64 m) (64 + n))) i = catF (maskF (readyF l key) 92#8) 64 (shaF (catF (maskF (readyF l key) 54#8) 64 m) (64 + n)) i := cat_congr (hR _) h2
  exact congrFun (shaF_congr _ _ 96 h3) j
end Go.Proofs.YtfpfgbhdehbggaaGreatDoor
namespace Go.Proofs.YtfpfgbhdehbggaaGreatDoor
set_option linter.unusedVariables false
set_option maxRecDepth 20000
def tbN : Nat := 2869618975290639062594974519597816386035077209210385677284518162336985023502962151465775969507961862820568736543004676439868535775640188584098917533413284844376797297285941524888791401501466624530423689326528054213168201056672989590893583853414110162539122864583953358348775951166211353578440977400428507475679327181038682772945817200201960445064847785221508011893952350688324234443749897213621340677040612747745615276448919507935121141307752692835344166708617454322778699219895865633266409040561742768581056182730443599545881830075941537620590442514083341749674612746994879540562701631131184186066652929592955206755
def tdN : Nat := 29022917302579095964124461949858013542724473648904841737866655790348712823699949138665809059499827693295928210552345624834464780210271501149743171624365253056144549668571949842842198483757917673820358967127239403036664387516565901472030220598252923801785930419531446491996907423676964199699175720602385906879680083903485254308339209678552217320138528911198260519229634791478122061432032516214484371579815631342231930258222337365598820086254069662275554781838914121458546816731767637215947301122829170181878307081147920335390477421409014593779889526109499260042632138652359755563522403016050871885672224018346954457600
theorem tb_at : ∀ i, i < 256 → bxT i = un 8 tbN i := by decide +kernel
theorem td_at : ∀ i, i < 256 → twT i = un 8 tdN i := by decide +kernel
theorem wordAt_congr {k : Nat} {bx bx' S S' : Nat → BitVec 8} {p : Nat} {c : BitVec 8} {i : Nat} (hp : 1 ≤ p) (hb : ∀ i, i < 256 → bx i = bx' i) (h : ∀ j, j < 4 * p → S j = S' j) (hi : i < 4) : wordAt k bx p S c i = wordAt k bx' p S' c i := by
  unfold wordAt
  rw [h (4 * (p - 1) + 1) (by omega), h (4 * (p - 1) + (i + 1) % 4) (by omega), h (4 * (p - 1) + i) (by omega), hb _ (BitVec.isLt _), hb _ (BitVec.isLt _), hb _ (BitVec.isLt _)]
theorem wordK_s (k : Nat) (bx tw key : Nat → BitVec 8) (m : Nat) : wordK k bx tw key (m + 1) = (partS k (m + k) (wordAt k bx (m + k) (wordK k bx tw key m).1 (wordK k bx tw key m).2) (wordK k bx tw key m).1 4, if (m + k) % k = 0 then tw (wordK k bx tw key m).2.toNat else (wordK k bx tw key m).2) := rfl
def cl (j : Nat) : BitVec 8 := un 8 231591253185358139361287508513366743154153739607350358740519038575174831268338683899693442634220033 j
theorem cl_ok : cl 0 = 1#8 ∧ ∀ m, m < 40 → (if (m + 4) % 4 = 0 then twT (cl m).toNat else cl m) = cl (m + 1) := by decide +kernel
def okS (sl : Nat → BitVec 8) : Prop := ∀ m, m < 40 → ∀ i, i < 4 → xB (sl (4 * m + i)) (wordAt 4 (un 8 tbN) (m + 4) sl (cl m) i) = sl (16 + 4 * m + i)
theorem words_lit (key sl : Nat → BitVec 8) (h0 : ∀ j, j < 16 → key j = sl j) (hs : okS sl) : ∀ m, m ≤ 40 → (wordK 4 bxT twT key m).2 = cl m ∧ ∀ j, (wordK 4 bxT twT key m).1 j = if j < 16 + 4 * m then sl j else 0#8
  | 0, _ => ⟨cl_ok.1.symm, fun j => by
    show (if j < 16 then key j else 0#8) = if j < 16 then sl j else 0#8
    by_cases e : j < 16
    · rw [if_pos e, if_pos e, h0 j e]
    · rw [if_neg e, if_neg e]⟩
  | m + 1, hm => by
    obtain ⟨h1, h2⟩ := words_lit key sl h0 hs m (by omega)
    rw [wordK_s]
    refine ⟨?_, fun j => ?_⟩
    · show (if (m + 4) % 4 = 0 then twT (wordK 4 bxT twT key m).2.toNat else (wordK 4 bxT twT key m).2) = _
      rw [h1, cl_ok.2 m (by omega)]
    · show partS 4 (m + 4) (wordAt 4 bxT (m + 4) (wordK 4 bxT twT key m).1 (wordK 4 bxT twT key m).2) (wordK 4 bxT twT key m).1 4 j = _
      unfold partS
      by_cases hin : 4 * (m + 4) ≤ j ∧ j < 4 * (m + 4) + 4
      · obtain ⟨i, rfl⟩ : ∃ i, j = 16 + 4 * m + i := ⟨j - (16 + 4 * m), by omega⟩
        have hi : i < 4 := by omega
        rw [if_pos hin, if_pos (by omega), h2, if_pos (by omega), show 16 + 4 * m + i - 4 * 4 = 4 * m + i by omega, show 16 + 4 * m + i - 4 * (m + 4) = i by omega, h1,
          wordAt_congr (S' := sl) (by omega) tb_at (fun j hj => by rw [h2, if_pos (by omega)]) hi]
        exact hs m (by omega) i hi
      · rw [if_neg hin, h2]
        by_cases hlo : j < 16 + 4 * m
        · rw [if_pos hlo, if_pos (by omega)]
        · rw [if_neg hlo, if_neg (by omega)]
theorem sched_lit (key sl : Nat → BitVec 8) (h0 : ∀ j, j < 16 → key j = sl j) (hs : okS sl) (j : Nat) (hj : j < 176) : schedK 4 key j = sl j := by
  unfold schedK keyP
  rw [if_pos (by omega)]
  have h := (words_lit key sl h0 hs 40 (Nat.le_refl _)).2 j
  rw [if_pos (by omega)] at h
  exact h
theorem repl_tb (f : Nat → BitVec 8) : replF bxT f = replF (un 8 tbN) f := by
  funext j; exact tb_at _ (BitVec.isLt _)
theorem mix_td (f : Nat → BitVec 8) : mixF twT f = mixF (un 8 tdN) f := by
  funext j
  unfold mixF
  rw [td_at _ (BitVec.isLt _)]
def ekN (K f : Nat → BitVec 8) : Nat → Nat
  | 0 => pkW 8 (addF f (kF K 0)) 16
  | n + 1 => fk (ekN K f n) fun P => fk (pkW 8 (replF (un 8 tbN) (un 8 P)) 16) fun P => pkW 8 (addF (mixF (un 8 tdN) (turnF 1 (un 8 P))) (kF K (n + 1))) 16
theorem kF_at {K K' : Nat → BitVec 8} (hK : ∀ j, j < 176 → K j = K' j) {n j : Nat} (hn : n ≤ 10) (hj : j < 16) : kF K n j = kF K' n j := hK _ (by omega)
theorem Eq16.pk {f : Nat → BitVec 8} : Eq16 (un 8 (pkW 8 f 16)) f := fun j hj => pk_at hj
theorem ek_at {K K' : Nat → BitVec 8} (hK : ∀ j, j < 176 → K j = K' j) (f : Nat → BitVec 8) : ∀ n, n ≤ 10 → Eq16 (un 8 (ekN K f n)) (encK K' bxT twT f n)
  | 0, _ => fun j hj => by
    show un 8 (pkW 8 (addF f (kF K 0)) 16) j = addF f (kF K' 0) j
    rw [pk_at hj]
    unfold addF
    rw [kF_at hK (by omega) hj]
  | n + 1, hn => fun j hj => by
    have ih := ek_at hK f n (by omega)
    show un 8 (fk (ekN K f n) fun P => fk (pkW 8 (replF (un 8 tbN) (un 8 P)) 16) fun P => pkW 8 (addF (mixF (un 8 tdN) (turnF 1 (un 8 P))) (kF K (n + 1))) 16) j = addF (mixF twT (turnF 1 (replF bxT (encK K' bxT twT f n)))) (kF K' (n + 1)) j
    rw [fk_eq, fk_eq, pk_at hj, repl_tb, mix_td]
    unfold addF
    rw [kF_at hK (by omega) hj]
    congr 1
    exact (Eq16.mix (Eq16.turn (Eq16.pk.trans (Eq16.repl ih)))) j hj
def enN (K f : Nat → BitVec 8) : Nat := fk (ekN K f 9) fun P => fk (pkW 8 (replF (un 8 tbN) (un 8 P)) 16) fun P => pkW 8 (addF (turnF 1 (un 8 P)) (kF K 10)) 16
theorem en_at {K K' : Nat → BitVec 8} (hK : ∀ j, j < 176 → K j = K' j) (f : Nat → BitVec 8) : Eq16 (un 8 (enN K f)) (encF K' bxT twT 10 f) := fun j hj => by
  have ih := ek_at hK f 9 (by omega)
  unfold enN
  show _ = addF (turnF 1 (replF bxT (encK K' bxT twT f 9))) (kF K' 10) j
  rw [fk_eq, fk_eq, pk_at hj, repl_tb]
  unfold addF
  rw [kF_at hK (by omega) hj]
  congr 1
  exact (Eq16.turn (Eq16.pk.trans (Eq16.repl ih))) j hj
def twN (t : Nat) : Nat → Nat
  | 0 => t
  | n + 1 => fk (twN t n) fun x => (dX 135#128 (BitVec.ofNat 128 x)).toNat
theorem tw_at (t : BitVec 128) : ∀ n, twN t.toNat n = (dK 135#128 n t).toNat
  | 0 => rfl
  | n + 1 => by
    show (fk (twN t.toNat n) fun x => (dX 135#128 (BitVec.ofNat 128 x)).toNat) = (dX 135#128 (dK 135#128 n t)).toNat
    rw [fk_eq, tw_at t n, BitVec.ofNat_toNat, BitVec.setWidth_eq]
def cbN (K : Nat → BitVec 8) (t : Nat) (f : Nat → BitVec 8) : Nat := fk (pkW 8 (byBA (BitVec.ofNat 128 t)) 16) fun u => fk (pkW 8 (addF f (un 8 u)) 16) fun x => fk (enN K (un 8 x)) fun y => pkW 8 (addF (un 8 y) (un 8 u)) 16
theorem cb_at {K K' : Nat → BitVec 8} (hK : ∀ j, j < 176 → K j = K' j) (t : BitVec 128) (f : Nat → BitVec 8) : Rp 8 16 (cbN K t.toNat f) (chF (encF K' bxT twT 10) t f) := by
  have e1 : cbN K t.toNat f = pkW 8 (addF (un 8 (enN K (un 8 (pkW 8 (addF f (un 8 (pkW 8 (byBA t) 16))) 16)))) (un 8 (pkW 8 (byBA t) 16))) 16 := by
    unfold cbN
    rw [fk_eq, fk_eq, fk_eq, BitVec.ofNat_toNat, BitVec.setWidth_eq]
  rw [e1]
  obtain ⟨u, hu⟩ : ∃ u, u = un 8 (pkW 8 (byBA t) 16) := ⟨_, rfl⟩
  have hu2 : Eq16 u (byBA t) := by rw [hu]; exact Eq16.pk
  rw [← hu]
  obtain ⟨x, hx⟩ : ∃ x, x = un 8 (pkW 8 (addF f u) 16) := ⟨_, rfl⟩
  have hx2 : Eq16 x (addF f (byBA t)) := by rw [hx]; exact Eq16.pk.trans (fun j hj => by simp only [addF, hu2 j hj])
  rw [← hx]
  refine (pk_rp 8 _ 16).congr fun j hj => ?_
  have h1 : un 8 (enN K x) j = encF K' bxT twT 10 (addF f (byBA t)) j := ((en_at hK x).trans (encF_congr K' 10 hx2)) j hj
  show xB (un 8 (enN K x) j) (u j) = xB (encF K' bxT twT 10 (addF f (byBA t)) j) (byBA t j)
  rw [h1, hu2 j hj]
def ctN (K : Nat → BitVec 8) (t : Nat) (f : Nat → BitVec 8) : Nat → Nat
  | 0 => 0
  | n + 1 => fk (ctN K t f n) fun C => fk (twN t n) fun u => fk (cbN K u fun i => f (16 * n + i)) fun y => C + (y <<< (8 * (16 * n)))
theorem ct_at {K K' : Nat → BitVec 8} (hK : ∀ j, j < 176 → K j = K' j) (t : BitVec 128) (f : Nat → BitVec 8) : ∀ n, Rp 8 (16 * n) (ctN K t.toNat f n) (fronts (chF (encF K' bxT twT 10)) t f)
  | 0 => ⟨by show 0 < _; exact Nat.two_pow_pos _, fun i hi => by omega⟩
  | n + 1 => by
    show Rp 8 (16 * n + 16) (fk (ctN K t.toNat f n) fun C => fk (twN t.toNat n) fun u => fk (cbN K u fun i => f (16 * n + i)) fun y => C + (y <<< (8 * (16 * n)))) _
    rw [fk_eq, fk_eq, fk_eq, tw_at]
    refine ((ct_at hK t f n).app (cb_at hK (dK 135#128 n t) fun i => f (16 * n + i))).congr fun i hi => ?_
    by_cases e : i < 16 * n
    · rw [if_pos e]
    · rw [if_neg e]
      unfold fronts
      rw [show i / 16 = n by omega, show i - 16 * n = i % 16 by omega]
def t0N (S2 : Nat → BitVec 8) (u : BitVec 64) : Nat := fk (enN S2 (byBA (jn u 0#64))) fun y => (ofB (un 8 y)).toNat
theorem ofB_congr {f g : Nat → BitVec 8} (h : Eq16 f g) : ofB f = ofB g := by
  apply BitVec.eq_of_getLsbD_eq
  intro i hi
  rw [ofB_bit _ i hi, ofB_bit _ i hi, h _ (by omega)]
theorem t0_at {K K' : Nat → BitVec 8} (hK : ∀ j, j < 176 → K j = K' j) (u : BitVec 64) : t0N K u = (tw0 K' 10 u).toNat := by
  unfold t0N tw0
  rw [fk_eq, ofB_congr (en_at hK _)]
def seN (K1 K2 : Nat → BitVec 8) (n : Nat) (f : Nat → BitVec 8) : Nat := fk (t0N K2 (n4 n)) fun t => ctN K1 t f 32
theorem se_at {K1 K2 : Nat → BitVec 8} (D : Nat → BitVec 8) (h1 : ∀ j, j < 176 → K1 j = schedK 4 D j) (h2 : ∀ j, j < 176 → K2 j = schedK 4 (fun j => D (16 + j)) j) (n : Nat) (f : Nat → BitVec 8) : Rp 8 512 (seN K1 K2 n f) (seF D n f) := by
  unfold seN
  rw [fk_eq, t0_at h2]
  exact ct_at h1 _ f 32
def k1N : Nat := 1552120192744108989647540773065838004032805867019423998533757858761787382536710620570945922425649769509852518696875929513917338079391649589537670599001869141650786294931727984584346443542296633854795715461420472414850353188153677633934688586770526535561015067632252663520280184422540733439132875599882925113591651591351278823772768976527993628785465816361432314883515804230683435131484045423674214907489491747185847686922241
def k2N : Nat := 3931656747735336289686731911141149559873156607943383392995099628939350397322716108946254088502208169216945994970537439423481447079232365874428230588284509250423116800327523109966507492645298494130130520064712611628247889841483612170286794919673775202424575661503670117788305566134135571988798320046889748653099035164351982765355151821029549896571275085066050977238552809540481814290421177144128882304282824199539848994881536
def ctL : Nat := 757253891336253014082369743939894546511496656366076194181772903405870472339394444360516248386214778784378943552664342540057123969112617732450417865945802320953426333846525128704761798986196847749240265606391610586178337022167661688700323601369654428851950520197983238690620268278917985588568306416525842609580485354216376527588619116121927807741848655145394579388171397915057788455444133038983049249814176741093036737020822968355554745605076357077908683848766335081714791950787417148206455149832373470086630239632114323741431103195326114570669022791109325966643725143695423615748888391018959504423410744253000379199467014173303316788668988607576293783355005451641946579299589312160286857296527979500393735178310791639219702162290921611408173462557972215348709935615134363423060845771035982589570768088321493846704688818393541963917871693955081827615506342207854587305202241670806938317850244966455909248198247671085264535086931940545403007043544021563923009436926559423810408730978381478796944757443178204029696280834013403919932659517290086279889928408699471769912643359789763376793341079509184064356670822176172123966021300394308772187591014903029648020601114586932299163304935814841426276738129423485845763185324696511835829032409
def exD (j : Nat) : BitVec 8 := if j = 0 then 1#8 else 0#8
def exT (j : Nat) : BitVec 8 := if j = 0 then 2#8 else 0#8
def exX (j : Nat) : BitVec 8 := 120#8
instance (sl : Nat → BitVec 8) : Decidable (okS sl) := by unfold okS; infer_instance
theorem k1_ok : okS (un 8 k1N) := by decide +kernel
theorem k2_ok : okS (un 8 k2N) := by decide +kernel
theorem k1_0 : ∀ j, j < 16 → exD j = un 8 k1N j := by decide +kernel
theorem k2_0 : ∀ j, j < 16 → exD (16 + j) = un 8 k2N j := by decide +kernel
theorem ct_is : seN (un 8 k1N) (un 8 k2N) 5 exX = ctL := by decide +kernel
theorem ex_ct (j : Nat) (hj : j < 512) : seF exD 5 exX j = un 8 ctL j := by
  rw [← ct_is]
  exact ((se_at exD (fun j hj => (sched_lit exD _ k1_0 k1_ok j hj).symm) (fun j hj => (sched_lit _ _ k2_0 k2_ok j hj).symm) 5 exX).2 j hj).symm
theorem tg_ne : un 8 (tgN 32 exT (allF (rlS 512) (rbS 3 5 (un 8 ctL)) 4) 526) 0 ≠ un 8 (tgN 32 exT (allF (rlS 512) (rbS 3 6 (un 8 ctL)) 4) 526) 0 := by decide +kernel
theorem rt_congr (e n : Nat) (T f g : Nat → BitVec 8) (h : ∀ j, j < 512 → f j = g j) : rtF e n T f 512 = rtF e n T g 512 := by
  unfold rtF
  rw [show sumL (rlS 512) 4 = 526 from rfl]
  refine tagF_congr 32 T _ _ 526 fun j hj => ?_
  show catF (catF (catF (catF (fun _ => 0#8) 0 secF) 6 (numB e)) 10 (numB n)) 14 f j = catF (catF (catF (catF (fun _ => 0#8) 0 secF) 6 (numB e)) 10 (numB n)) 14 g j
  unfold catF
  by_cases q : j < 14
  · rw [if_pos q, if_pos q]
  · rw [if_neg q, if_neg q, h _ (by omega)]
theorem rc_ne : rcF 3 5 exT (seF exD 5 exX) 512 4 ≠ rcF 3 6 exT (seF exD 5 exX) 512 4 := by
  unfold rcF
  rw [if_neg (by decide), if_pos (by decide), if_neg (by decide), if_pos (by decide), rt_congr _ _ _ _ _ ex_ct, rt_congr _ _ _ _ _ ex_ct]
  unfold rtF
  rw [show sumL (rlS 512) 4 = 526 from rfl, ← tg_at _ _ _ _ _ (by decide), ← tg_at _ _ _ _ _ (by decide)]
  exact tg_ne
end Go.Proofs.YtfpfgbhdehbggaaGreatDoor
namespace Go.Proofs.YtfpfgbhdehbggaaGreatDoor
open Go.RowKit Go.BigFrame
set_option linter.unusedVariables false
set_option maxRecDepth 20000
def bS (l : Nat) (b : Nat → BitVec 8) : ByteArray := bstr l fun j => ((b j).toNat : Int)
theorem convS (v : Value) (l : Nat) (b : Nat → BitVec 8) (w : World) (h : BV v l b w) : (convert 25 9 v).run Tryz.prog w = .ok (.string (bS l b)) w := convV v l b w h
theorem bS_congr {l : Nat} {b c : Nat → BitVec 8} (h : ∀ j, j < l → b j = c j) : bS l b = bS l c := bstr_congr fun j hj => by rw [h j hj]
theorem zero50 (w : World) : (zeroValue 24).run Tryz.prog w = .ok (.agg (row 65 (ekV 0 (fun _ => 0#8) fun _ => 0#8)).toArray) w := by kernel_rfl
theorem blt1 (w : World) : (Instr.build 22 #[(0, .int .u8 1)]).run Tryz.prog w = .ok (.agg (row 32 (yv exD)).toArray) w := by kernel_rfl
theorem blt2 (w : World) : (Instr.build 22 #[(0, .int .u8 2)]).run Tryz.prog w = .ok (.agg (row 32 (yv exT)).toArray) w := by kernel_rfl
def exK (j : Nat) : BitVec 8 := if j = 0 then 7#8 else 0#8
theorem blt7 (w : World) : (Instr.build 22 #[(0, .int .u8 7)]).run Tryz.prog w = .ok (.agg (row 32 (yv exK)).toArray) w := by kernel_rfl
theorem bltk (w : World) : (Instr.build 24 #[(0, .int .i64 3), (1, .agg (row 32 (yv exD)).toArray), (2, .agg (row 32 (yv exT)).toArray)]).run Tryz.prog w = .ok (.agg (row 65 (ekV 3 exD exT)).toArray) w := by kernel_rfl
theorem bltr (w : World) : (Instr.build 57 #[(0, .int .u64 4)]).run Tryz.prog w = .ok (.agg (row 35 (rtV 4#64 false ((0 : Nat) : Int) fun _ => 0#8)).toArray) w := by kernel_rfl
def TBy (v : Value) (l : Nat) (f : Nat → BitVec 8) (X : World) : Prop := ∃ a c C m, v = .slice (some a) l c ∧ l ≤ c ∧ LieAt a l (yv f) X ∧ X.heap[a.block]? = some (.cells C 5 m)
theorem TBy.bv {v : Value} {l : Nat} {f : Nat → BitVec 8} {X : World} (h : TBy v l f X) : BV v l f X := by
  obtain ⟨a, c, C, m, h1, h2, h3, _⟩ := h
  exact .inr ⟨a, c, h1, h2, h3⟩
theorem TBy.mv {b0 : Nat} {v : Value} {l : Nat} {f : Nat → BitVec 8} {X Y : World} (h : TBy v l f X) (k : MvT b0 X Y) : TBy v l f Y := by
  obtain ⟨a, c, C, m, h1, h2, h3, h4⟩ := h
  obtain ⟨m', h5⟩ := mv_bytes k h4
  exact ⟨a, c, C, m', h1, h2, ⟨fun j hj => mv_cell k _ _ (h3.1 j hj), Nat.lt_of_lt_of_le h3.2 k.2.2.2.1⟩, h5⟩
theorem OwnB.tby {base : Nat} {v : Value} {l : Nat} {f : Nat → BitVec 8} {X : World} (h : OwnB base 5 v l (yv f) X) (hl : 0 < l) : TBy v l f X := by
  obtain ⟨b, cap, h1, _, h3, _, h5⟩ := h.lies hl
  rcases h.2 with ⟨_, h2⟩ | ⟨b', cap', cur, h6, _, hg, _⟩
  · omega
  · rw [h1] at h6
    injection h6 with h6
    injection h6 with h6
    injection h6 with h6
    subst h6
    exact ⟨⟨b, 0, none⟩, cap, _, _, h1, h3, RowAt.lie h5 l (Nat.le_refl _), hg⟩
theorem lie_set {a : Addr} {l p o : Nat} {g : Nat → Value} {X : World} {vs : List Value} (h : LieAt a l g X) (hp : a.block ≠ p) : LieAt a l g (X.setCells p o vs) :=
  h.but (But.sets vs o X (But.refl p X)) hp
def mkX (B t z : Nat) (Z : Array Value) (i : Nat) (v : Value) (X : World) : Prop :=
  if i = t then ∃ g, v = .slice (some ⟨g, 0, none⟩) 1 1 ∧ B ≤ g ∧ ∃ m, X.heap[g]? = some (.cells #[.int .u8 120] 5 m)
  else ∃ p, v = .pointer (some ⟨p, 0, none⟩) ∧ B ≤ p ∧ X.heap[p]? = some (.cells Z z (0, 0))
theorem mkX_cl (B t z : Nat) (Z : Array Value) (hz : z ≠ 5) (i : Nat) (v : Value) : Cl (MvT B) (mkX B t z Z i v) := fun X Y h k => by
  unfold mkX at h ⊢
  by_cases e : i = t
  · rw [if_pos e] at h ⊢
    obtain ⟨g, h1, h2, m, h3⟩ := h
    exact ⟨g, h1, h2, mv_bytes k h3⟩
  · rw [if_neg e] at h ⊢
    obtain ⟨p, h1, h2, h3⟩ := h
    exact ⟨p, h1, h2, mv_plain k hz h3⟩
theorem x_bv {X : World} {g : Nat} {m : Nat × Nat} (h : X.heap[g]? = some (.cells #[.int .u8 120] 5 m)) : BV (.slice (some ⟨g, 0, none⟩) 1 1) 1 exX X :=
  .inr ⟨⟨g, 0, none⟩, 1, rfl, Nat.le_refl _, fun j hj => by
    obtain rfl : j = 0 := by omega
    rw [add_off]
    unfold World.cell?
    simp only [h]
    rfl, (Array.getElem?_eq_some_iff.1 h).1⟩
theorem mv_row {b0 c n : Nat} {g : Nat → Value} {X Y : World} (h : RowAt c n g X) (k : MvT b0 X Y) : Y.rangeAt c 0 (row n g) := fun j x hx => by
  obtain ⟨hj, rfl⟩ := row_some hx
  rw [Nat.zero_add]
  exact mv_cell k _ _ (h.1 j hj)
theorem blk_x : blkF 1 exX = exX := rfl
theorem rc_ep : leN (rcF 3 5 exT (seF exD 5 exX) 512) 4 = n4 3 := leN_by _ 4 (by omega) (fun j hj => by unfold rcF; rw [if_pos hj]; rfl) (by decide)
theorem h9_ok : okH (hSe 9) := by
  unfold okH okA okP hSe
  decide
theorem ep_any (w : World) : Calls Tryz.prog 11 #[.agg (row 64 (yv (rcF 3 5 exT (seF exD 5 exX) 512))).toArray] w fun e w' => e = .returned (.tuple #[.int .i64 3, .int .i64 0]) ∧ Ext w w' := by
  have h := ep_ok (rcF 3 5 exT (seF exD 5 exX) 512) w (by rw [rc_ep]; decide)
  rw [rc_ep] at h
  exact h
theorem bs_eq : bS 512 (opF exD 5 (seF exD 5 exX)) = bS 512 exX := bS_congr fun j hj => op_se exD 5 exX j hj
set_option maxRecDepth 20000 in
set_option maxHeartbeats 4000000 in
theorem lives_any (w : World) (hC : TabC w) : Calls Tryz.prog 8 #[] w fun e w' => e = .returned (.bool true) ∧ Ext w w' := by
  have hE := hideit (Ext.refl w)
  go_enter Tryz.func8, Tryz.ntmps8
  go_upto_region 0 with (fail)
  refine wp_region_lit ?_
  refine xm [some (.bool false)] (by kernel_rfl) (by simp [xr, go_sem]) ?_
  simp only [xw, p0, p1, p2]
  go_upto_region 1 with (fail)
  refine wp_region_lit ?_
  refine wpList_run rfl (.agg (row 32 (yv exD)).toArray) (xbuild 22 [(0, .const (.int .u8 1))] rfl _ (blt1 _)) ?_
  simp only [zp0, zp1, zp2, zp3]
  refine wpList_run rfl (.agg (row 32 (yv exT)).toArray) (xbuild 22 [(0, .const (.int .u8 2))] rfl _ (blt2 _)) ?_
  simp only [zp0, zp1, zp2, zp3]
  refine wpList_run rfl (.agg (row 65 (ekV 3 exD exT)).toArray) (xbuild 24 [(0, .const (.int .i64 3)), (1, .tmp 15), (2, .tmp 16)] rfl _ (bltk _)) ?_
  simp only [zp0, zp1, zp2, zp3]
  have A0 := hideit (RowAt.new w 65 (ekV 0 (fun _ => 0#8) (fun _ => 0#8)) 24)
  have AE := hideit (Below.alloc hE.out (Below.size hE.out) (.cells (row 65 (ekV 0 (fun _ => 0#8) (fun _ => 0#8))).toArray 24))
  have AB := hideit (Below.size hE.out)
  refine wpList_to rfl (.pointer (some ⟨w.heap.size, 0, none⟩)) (w.alloc (.cells (row 65 (ekV 0 (fun _ => 0#8) (fun _ => 0#8))).toArray 24)) (xalloc 24 (row 65 (ekV 0 (fun _ => 0#8) (fun _ => 0#8))).toArray rfl (zero50 w)) ?_
  simp only [zp0, zp1, zp2, zp3]
  generalize w.alloc (.cells (row 65 (ekV 0 (fun _ => 0#8) (fun _ => 0#8))).toArray 24) = x2 at A0 AE ⊢
  obtain ⟨z1, ez1⟩ : ∃ b, b = w.heap.size := ⟨_, rfl⟩
  replace AB : Hid (w.heap.size ≤ z1) := by rw [ez1]; exact AB.out
  rw [← ez1] at A0  ⊢
  clear ez1
  have Hz1 := A0
  clear A0
  replace hE := AE
  clear AE
  have ABz1 := AB
  clear AB
  have N0 := hideit (Hz1.out.cells (g' := ekV 3 exD exT))
  have NE := hideit (below_setCells z1 (ABz1.out) (row 65 (ekV 3 exD exT)) 0 _ hE.out)
  refine xst rfl (x2.setCells z1 0 (row 65 (ekV 3 exD exT))) (xstore 24 (.tmp 1) (.tmp 17) rfl z1 65 _ (ekV 3 exD exT) rfl rfl Hz1.out inf50 (fun j _ => ek_one _ _ _ j)) ?_
  simp only [Act.put]
  generalize x2.setCells z1 0 (row 65 (ekV 3 exD exT)) = x3 at N0 NE ⊢
  replace Hz1 := N0
  replace hE := NE
  clear N0 NE
  obtain ⟨W, hW⟩ : ∃ W, W = x3.drew := ⟨_, rfl⟩
  have hYW : Ext x3 W := by rw [hW]; exact (Ext.refl _).draw
  have hEW := hideit (Ext.trans hE.out hYW)
  have K1 := hideit (Hz1.out.carry hYW)
  have TC := hideit (hC.ext hEW.out)
  clear Hz1 hE hYW
  go_upto_region 2 with (fail)
  refine wp_region_ladm (MvT W.heap.size) (fun X => MvT W.heap.size W X) (mkX W.heap.size 1 26 (row 64 (yv fun _ => 0#8)).toArray) [] [11] [(0, 0), (2, 1), (1, 2), (1, 3), (1, 4), (0, 5), (0, 6), (0, 7), (0, 8), (2, 9), (0, 10), (1, 11), (0, 12)] (by kernel_rfl) (by kernel_rfl) (by decide +kernel) (by decide +kernel) (by decide +kernel) (by decide +kernel) (mkX_cl _ _ _ _ (by decide)) (fun _ _ h k => mv_trans h k) (by rw [← hW]; exact mv_ext (Ext.refl _)) ?_
  refine wpQ_f _ (.agg (row 65 (ekV 3 exD exT)).toArray) rfl rfl (fun X hX => xload 24 (.tmp 1) rfl z1 0 65 _ rfl (mv_row K1.out hX) Tryz.underlying24 rfl inf50) ?_
  simp only [List.getElem_toArray, List.getElem_cons_zero, Act.put, List.setIfInBounds_toArray, List.set_cons_zero, List.set_cons_succ]
  refine wpQ_m _ rfl rfl (fun X hX => ⟨.slice (some ⟨X.heap.size, 0, none⟩) 1 1, X.alloc (.cells #[.int .u8 120] 5), by simp [go_sem], ⟨X.heap.size, rfl, hX.2.2.2.1, (0, 0), heap_new _ _ _⟩, mv_ext ((Below.refl _ _).alloc (Nat.le_refl _) _)⟩) ?_
  rintro v2 ⟨_, -, g2, rfl, -⟩
  simp only [zp4, zp5, zp6, zp0, zp1, zp2, zp3]
  refine wpQ_to _ rfl rfl fun X hX => ?_
  obtain ⟨hX1, g', f3, hg', m, hm⟩ := hX
  injection f3 with f3
  injection f3 with f3
  injection f3 with f3
  subst f3
  obtain ⟨Y, hcv, hmv⟩ := conv_mv (n := 1) hm hg'
  refine ⟨.slice (some ⟨g2, 0, none⟩) 1 1, Y, by simp [go_sem, hcv], fun Z => MvT W.heap.size W Z ∧ mkX W.heap.size 1 26 (row 64 (yv fun _ => 0#8)).toArray 1 (.slice (some ⟨g2, 0, none⟩) 1 1) Z, ⟨mv_trans hX1 hmv, mkX_cl _ _ _ _ (by decide) 1 _ _ _ ⟨g2, rfl, hg', m, hm⟩ hmv⟩, .inr (.inr ⟨fun Z hZ => hZ, hmv, fun A C hA k => ⟨mv_trans hA.1 k, mkX_cl _ _ _ _ (by decide) 1 _ _ _ hA.2 k⟩⟩), ?_⟩
  clear hcv hmv hm hX1
  simp only [zp4, zp5, zp6, zp0, zp1, zp2, zp3]
  refine wpQ_call _ rfl rfl (fun X hX => by simp [go_sem]) (fun X hX => (blk512_any (some ⟨g2, 0, none⟩) 1 1 exX X (by
    obtain ⟨hX1, g', f3, hg', m, hm⟩ := hX
    injection f3 with f3
    injection f3 with f3
    injection f3 with f3
    subst f3
    exact x_bv hm) (by decide)).mono ?_)
  rintro e3 X3 ⟨z3, rfl, hz3, hR3, hX3⟩
  rw [blk_x] at hR3
  refine ⟨_, rfl, fun Z => (MvT W.heap.size W Z ∧ mkX W.heap.size 1 26 (row 64 (yv fun _ => 0#8)).toArray 1 (.slice (some ⟨g2, 0, none⟩) 1 1) Z) ∧ BV (.slice (some ⟨z3, 0, none⟩) 512 512) 512 exX Z, ⟨⟨mv_trans hX.1 (mv_ext hX3), mkX_cl _ _ _ _ (by decide) 1 _ _ _ hX.2 (mv_ext hX3)⟩, .inr ⟨⟨z3, 0, none⟩, 512, rfl, Nat.le_refl _, RowAt.lie hR3 512 (Nat.le_refl _)⟩⟩, .inr (.inr ⟨fun Z hZ => hZ.1, mv_ext hX3, fun A C hA k => ⟨⟨mv_trans hA.1.1 k, mkX_cl _ _ _ _ (by decide) 1 _ _ _ hA.1.2 k⟩, hA.2.mv k⟩⟩), ?_⟩
  clear hz3 hR3 hX3
  simp only [zp4, zp5, zp6, zp0, zp1, zp2, zp3]
  refine wpQ_call _ rfl rfl (fun X hX => by simp [go_sem]) (fun X hX => (seal_ok 3 5 exD exT (.slice (some ⟨z3, 0, none⟩) 512 512) exX X hX.2 (TC.out.mv hX.1.1) (by decide) (by decide) (by decide)).mono ?_)
  rintro e4 X4 ⟨v4, rfl, hO4, hX4⟩
  refine ⟨_, rfl, fun Z => ((MvT W.heap.size W Z ∧ mkX W.heap.size 1 26 (row 64 (yv fun _ => 0#8)).toArray 1 (.slice (some ⟨g2, 0, none⟩) 1 1) Z) ∧ BV (.slice (some ⟨z3, 0, none⟩) 512 512) 512 exX Z) ∧ TBy v4 512 (seF exD 5 exX) Z, ⟨⟨⟨mv_trans hX.1.1 (mv_ext hX4), mkX_cl _ _ _ _ (by decide) 1 _ _ _ hX.1.2 (mv_ext hX4)⟩, hX.2.ext hX4⟩, hO4.tby (by decide)⟩, .inr (.inr ⟨fun Z hZ => hZ.1, mv_ext hX4, fun A C hA k => ⟨⟨⟨mv_trans hA.1.1.1 k, mkX_cl _ _ _ _ (by decide) 1 _ _ _ hA.1.1.2 k⟩, hA.1.2.mv k⟩, hA.2.mv k⟩⟩), ?_⟩
  clear hO4 hX4
  simp only [zp4, zp5, zp6, zp0, zp1, zp2, zp3]
  refine wpQ_f _ (.tuple #[v4, .agg (row 64 (yv (rcF 3 5 exT (seF exD 5 exX) 512))).toArray, .int .i64 0]) rfl rfl (fun X hX => by simp [go_sem]) ?_
  simp only [zp4, zp5, zp6, zp0, zp1, zp2, zp3]
  refine wpQ_f _ (v4) rfl rfl (fun X hX => by simp [go_sem]) ?_
  simp only [zp4, zp5, zp6, zp0, zp1, zp2, zp3]
  refine wpQ_f _ (.agg (row 64 (yv (rcF 3 5 exT (seF exD 5 exX) 512))).toArray) rfl rfl (fun X hX => by simp [go_sem]) ?_
  simp only [zp4, zp5, zp6, zp0, zp1, zp2, zp3]
  refine wpQ_f _ (.int .i64 0) rfl rfl (fun X hX => by simp [go_sem]) ?_
  simp only [zp4, zp5, zp6, zp0, zp1, zp2, zp3]
  refine wpQ_m _ rfl rfl (fun X hX => ⟨.pointer (some ⟨X.heap.size, 0, none⟩), X.alloc (.cells (row 64 (yv fun _ => 0#8)).toArray 26), xalloc 26 _ rfl (zero23 _), ⟨X.heap.size, rfl, hX.2.2.2.1, heap_new _ _ _⟩, mv_ext ((Below.refl _ _).alloc (Nat.le_refl _) _)⟩) ?_
  rintro v9 ⟨_, -, p, rfl, -⟩
  simp only [zp4, zp5, zp6, zp0, zp1, zp2, zp3]
  refine wpQ_f _ (v4) rfl rfl (fun X hX => by simp [go_sem]) ?_
  simp only [zp4, zp5, zp6, zp0, zp1, zp2, zp3]
  refine wpQ_st _ rfl rfl fun X hX => ?_
  obtain ⟨⟨hX8, hT⟩, p', f5, hp, hm⟩ := hX
  injection f5 with f5
  injection f5 with f5
  injection f5 with f5
  subst f5
  have EX : Ext W X := mv_back (Ext.refl W) (Nat.le_refl _) hX8.1.1
  have N0 := hideit ((row_heap hm).cells (g' := yv (rcF 3 5 exT (seF exD 5 exX) 512)))
  have NE := hideit (below_setCells p hp (row 64 (yv (rcF 3 5 exT (seF exD 5 exX) 512))) 0 _ EX)
  have NT : Hid (BV v4 512 (seF exD 5 exX) (X.setCells p 0 (row 64 (yv (rcF 3 5 exT (seF exD 5 exX) 512))))) := by
    obtain ⟨a, c, C, m, h1, h2, h3, h4⟩ := hT
    refine .inr ⟨a, c, h1, h2, lie_set h3 fun q => ?_⟩
    rw [q, hm] at h4
    injection h4 with h4
    injection h4 with _ h5
    cases h5
  refine ⟨X.setCells p 0 (row 64 (yv (rcF 3 5 exT (seF exD 5 exX) 512))), xstore 26 (.tmp 3) (.tmp 25) rfl p 64 _ (yv (rcF 3 5 exT (seF exD 5 exX) 512)) rfl rfl (row_heap hm) inf23 (fun _ _ => rfl), fun Y => Y = X.setCells p 0 (row 64 (yv (rcF 3 5 exT (seF exD 5 exX) 512))), rfl, .inr (.inl ⟨by simp, fun Z hZ => by rw [hZ]; exact mv_ext NE.out⟩), ?_⟩
  simp only [List.getElem_toArray, List.getElem_cons_zero, List.getElem_cons_succ, Act.put]
  refine wpQ_f _ (.int .i64 0) rfl rfl (fun X hX => by simp [go_sem]) ?_
  simp only [zp4, zp5, zp6, zp0, zp1, zp2, zp3]
  refine wpQ_nil fun Y hY => ?_
  rw [← hY] at N0 NE NT
  clear hY hm EX hX8 hX hT
  have hE := hideit (Ext.trans hEW.out NE.out)
  have K2 := hideit (K1.out.carry NE.out)
  have RP := N0
  clear N0 NE hEW K1 TC
  clear hW
  go_upto_region 3 with (fail)
  refine wp_region_lit ?_
  refine wpList_run rfl (.agg (row 65 (ekV 3 exD exT)).toArray) (xload 24 (.tmp 1) rfl z1 0 65 _ rfl K2.out.range Tryz.underlying24 rfl inf50) ?_
  simp only [zp0, zp1, zp2, zp3]
  refine xm [some (v4)] (by kernel_rfl) (by simp [xr, go_sem]) ?_
  simp only [xw, p0, p1, p2, p3]
  refine wpList_run rfl (.agg (row 64 (yv (rcF 3 5 exT (seF exD 5 exX) 512))).toArray) (xload 26 (.tmp 3) rfl p 0 64 _ rfl RP.out.range Tryz.underlying26 rfl inf23) ?_
  simp only [zp0, zp1, zp2, zp3]
  refine wpList_call rfl (by simp [go_sem]) ((open_yes 3 5 exD exT (rcF 3 5 exT (seF exD 5 exX) 512) v4 (seF exD 5 exX) Y NT.out (hC.ext hE.out) (by decide) (by decide) (by decide) (fun _ _ => rfl)).mono ?_)
  rintro e y5 ⟨v5, rfl, hO5, hX5⟩
  refine ⟨_, rfl, ?_⟩
  simp only [zp0, zp1, zp2, zp3]
  replace K2 := hideit (K2.out.carry hX5)
  replace RP := hideit (RP.out.carry hX5)
  replace NT := hideit (NT.out.ext hX5)
  replace hE := hideit (Ext.trans hE.out (hX5))
  have hB5 := hideit hO5.bv
  clear hX5 hO5
  have hY := hideit (Ext.refl y5)
  refine xm [some (.tuple #[v5, .int .i64 0]), some (v5), some (.int .i64 0), some (v5), some (.int .i64 0)] (by kernel_rfl) (by simp [xr, go_sem]) ?_
  simp only [xw, p0, p1, p2, p3]
  go_upto_region 4 with (fail)
  refine wp_region_lit ?_
  refine wpList_run rfl (.agg (row 65 (ekV 3 exD exT)).toArray) (xload 24 (.tmp 1) rfl z1 0 65 _ rfl K2.out.range Tryz.underlying24 rfl inf50) ?_
  simp only [zp0, zp1, zp2, zp3]
  refine xm [some (v4)] (by kernel_rfl) (by simp [xr, go_sem]) ?_
  simp only [xw, p0, p1, p2, p3]
  refine wpList_run rfl (.agg (row 64 (yv (rcF 3 5 exT (seF exD 5 exX) 512))).toArray) (xload 26 (.tmp 3) rfl p 0 64 _ rfl RP.out.range Tryz.underlying26 rfl inf23) ?_
  simp only [zp0, zp1, zp2, zp3]
  refine wpList_call rfl (by simp [go_sem]) ((open_no 3 6 exD exT (rcF 3 5 exT (seF exD 5 exX) 512) v4 (seF exD 5 exX) y5 (NT.out.ext hY.out) (hC.ext (Ext.trans hE.out hY.out)) (by decide) (by decide) (by decide) (fun q => rc_ne (q 4 (by decide)))).mono ?_)
  rintro e y6 ⟨rfl, hX6⟩
  refine ⟨_, rfl, ?_⟩
  simp only [zp0, zp1, zp2, zp3]
  replace K2 := hideit (K2.out.carry hX6)
  replace RP := hideit (RP.out.carry hX6)
  replace hY := hideit (Ext.trans hY.out (hX6))
  clear hX6
  refine xm [some (.tuple #[.slice none 0 0, .int .i64 160]), some (.slice none 0 0), some (.int .i64 160), some (.slice none 0 0), some (.int .i64 160)] (by kernel_rfl) (by simp [xr, go_sem]) ?_
  simp only [xw, p0, p1, p2, p3]
  go_upto_region 5 with (fail)
  refine wp_region_lit ?_
  refine wpList_run rfl (.agg (row 64 (yv (rcF 3 5 exT (seF exD 5 exX) 512))).toArray) (xload 26 (.tmp 3) rfl p 0 64 _ rfl RP.out.range Tryz.underlying26 rfl inf23) ?_
  simp only [zp0, zp1, zp2, zp3]
  refine wpList_call rfl (by simp [go_sem]) ((ep_any y6).mono ?_)
  rintro e y7 ⟨rfl, hX7⟩
  refine ⟨_, rfl, ?_⟩
  simp only [zp0, zp1, zp2, zp3]
  replace K2 := hideit (K2.out.carry hX7)
  replace RP := hideit (RP.out.carry hX7)
  replace hY := hideit (Ext.trans hY.out (hX7))
  clear hX7
  refine xm [some (.tuple #[.int .i64 3, .int .i64 0]), some (.int .i64 3), some (.int .i64 0), some (.int .i64 3), some (.int .i64 0)] (by kernel_rfl) (by simp [xr, go_sem]) ?_
  simp only [xw, p0, p1, p2, p3]
  go_upto_region 6 with (fail)
  refine wp_region_lit ?_
  refine wpList_run rfl (.agg (row 32 (yv exK)).toArray) (xbuild 22 [(0, .const (.int .u8 7))] rfl _ (blt7 _)) ?_
  simp only [zp0, zp1, zp2, zp3]
  refine wpList_call rfl (by simp [go_sem]) ((head_any 9 y7).mono ?_)
  rintro e y4 ⟨rfl, hX5⟩
  refine ⟨_, rfl, ?_⟩
  simp only [zp0, zp1, zp2, zp3]
  replace K2 := hideit (K2.out.carry hX5)
  replace RP := hideit (RP.out.carry hX5)
  replace hY := hideit (Ext.trans hY.out (hX5))
  clear hX5
  refine wpList_run rfl (.agg (row 35 (rtV 4#64 false ((0 : Nat) : Int) (fun _ => 0#8))).toArray) (xbuild 57 [(0, .const (.int .u64 4))] rfl _ (bltr _)) ?_
  simp only [zp0, zp1, zp2, zp3]
  refine wpList_call rfl (by simp [go_sem]) ((rb12_ok exK (hSe 9) 4#64 false 0 (fun _ => 0#8) y4 (hC.ext (Ext.trans hE.out hY.out)) h9_ok (by decide) (by decide)).mono ?_)
  rintro e y8 ⟨x8, rfl, _, hR8, hX8⟩
  refine ⟨_, rfl, ?_⟩
  simp only [zp0, zp1, zp2, zp3]
  replace K2 := hideit (K2.out.carry hX8)
  replace RP := hideit (RP.out.carry hX8)
  replace hY := hideit (Ext.trans hY.out (hX8))
  have hB8 : Hid (BV (.slice (some ⟨x8, 0, none⟩) 512 512) 512 (rkF exK (hSe 9) 4#64 false 0 fun _ => 0#8) y8) := .inr ⟨⟨x8, 0, none⟩, 512, rfl, Nat.le_refl _, RowAt.lie hR8 512 (Nat.le_refl _)⟩
  clear hX8 hR8
  refine xm [some (.tuple #[.slice (some ⟨x8, 0, none⟩) 512 512, .int .i64 0]), some (.slice (some ⟨x8, 0, none⟩) 512 512), some (.int .i64 0), some (.slice (some ⟨x8, 0, none⟩) 512 512), some (.int .i64 0)] (by kernel_rfl) (by simp [xr, go_sem]) ?_
  simp only [xw, p0, p1, p2, p3]
  go_upto_region 7 with (fail)
  refine wp_region_lit ?_
  refine wpList_run rfl (.agg (row 32 (yv exK)).toArray) (xbuild 22 [(0, .const (.int .u8 7))] rfl _ (blt7 _)) ?_
  simp only [zp0, zp1, zp2, zp3]
  refine wpList_call rfl (by simp [go_sem]) ((head_any 9 y8).mono ?_)
  rintro e y6 ⟨rfl, hX7⟩
  refine ⟨_, rfl, ?_⟩
  simp only [zp0, zp1, zp2, zp3]
  replace K2 := hideit (K2.out.carry hX7)
  replace RP := hideit (RP.out.carry hX7)
  replace hB8 := hideit (hB8.out.ext hX7)
  replace hY := hideit (Ext.trans hY.out (hX7))
  clear hX7
  refine xm [some (.slice (some ⟨x8, 0, none⟩) 512 512)] (by kernel_rfl) (by simp [xr, go_sem]) ?_
  simp only [xw, p0, p1, p2, p3]
  refine wpList_call rfl (by simp [go_sem]) ((rr_yes exK (hSe 9) (.slice (some ⟨x8, 0, none⟩) 512 512) 512 (rkF exK (hSe 9) 4#64 false 0 fun _ => 0#8) y6 hB8.out (hC.ext (Ext.trans hE.out hY.out)) (by decide) h9_ok 4#64 false 0 (fun _ => 0#8) (by decide) ⟨by decide, rfl, fun _ _ => rfl⟩).mono ?_)
  rintro e y9 ⟨rfl, hX9⟩
  refine ⟨_, rfl, ?_⟩
  simp only [zp0, zp1, zp2, zp3]
  replace K2 := hideit (K2.out.carry hX9)
  replace RP := hideit (RP.out.carry hX9)
  replace hY := hideit (Ext.trans hY.out (hX9))
  clear hX9 hB8
  refine xm [some (.tuple #[.agg (row 35 (rtV 4#64 false ((0 : Nat) : Int) (fun _ => 0#8))).toArray, .int .i64 0]), some (.agg (row 35 (rtV 4#64 false ((0 : Nat) : Int) (fun _ => 0#8))).toArray), some (.int .i64 0)] (by kernel_rfl) (by simp [xr, go_sem]) ?_
  simp only [xw, p0, p1, p2, p3]
  have A0 := hideit (RowAt.new y9 35 (rtV 0#64 false 0 (fun _ => 0#8)) 57)
  have A1 := hideit (K2.out.alloc (.cells (row 35 (rtV 0#64 false 0 (fun _ => 0#8))).toArray 57))
  have A2 := hideit (RP.out.alloc (.cells (row 35 (rtV 0#64 false 0 (fun _ => 0#8))).toArray 57))
  have AE := hideit (Below.alloc hY.out (Below.size hY.out) (.cells (row 35 (rtV 0#64 false 0 (fun _ => 0#8))).toArray 57))
  have AB := hideit (Below.size hY.out)
  have D0 : Hid (z1 ≠ y9.heap.size) := Nat.ne_of_lt K2.out.2.2
  have D1 : Hid (p ≠ y9.heap.size) := Nat.ne_of_lt RP.out.2.2
  refine wpList_to rfl (.pointer (some ⟨y9.heap.size, 0, none⟩)) (y9.alloc (.cells (row 35 (rtV 0#64 false 0 (fun _ => 0#8))).toArray 57)) (xalloc 57 (row 35 (rtV 0#64 false 0 (fun _ => 0#8))).toArray rfl (zero39 y9)) ?_
  simp only [zp0, zp1, zp2, zp3]
  generalize y9.alloc (.cells (row 35 (rtV 0#64 false 0 (fun _ => 0#8))).toArray 57) = x9 at A0 A1 A2 AE ⊢
  obtain ⟨z8, ez8⟩ : ∃ b, b = y9.heap.size := ⟨_, rfl⟩
  replace AB : Hid (y5.heap.size ≤ z8) := by rw [ez8]; exact AB.out
  rw [← ez8] at A0 D0 D1 ⊢
  clear ez8
  have Hz8 := A0
  clear A0
  replace K2 := A1
  clear A1
  replace RP := A2
  clear A2
  replace hY := AE
  clear AE
  have ABz8 := AB
  clear AB
  have Dz8_0 := D0
  clear D0
  have Dz8_1 := D1
  clear D1
  have N0 := hideit (Hz8.out.cells (g' := rtV 4#64 false ((0 : Nat) : Int) (fun _ => 0#8)))
  have N1 := hideit (K2.out.cellsOther (Ne.symm (Dz8_0.out)) (row 35 (rtV 4#64 false ((0 : Nat) : Int) (fun _ => 0#8))) 0)
  have N2 := hideit (RP.out.cellsOther (Ne.symm (Dz8_1.out)) (row 35 (rtV 4#64 false ((0 : Nat) : Int) (fun _ => 0#8))) 0)
  have NE := hideit (below_setCells z8 (ABz8.out) (row 35 (rtV 4#64 false ((0 : Nat) : Int) (fun _ => 0#8))) 0 _ hY.out)
  refine xst rfl (x9.setCells z8 0 (row 35 (rtV 4#64 false ((0 : Nat) : Int) (fun _ => 0#8)))) (xstore 57 (.tmp 13) (.tmp 58) rfl z8 35 _ (rtV 4#64 false ((0 : Nat) : Int) (fun _ => 0#8)) rfl rfl Hz8.out inf39 (fun j _ => rt_one _ _ _ _ j)) ?_
  simp only [Act.put]
  generalize x9.setCells z8 0 (row 35 (rtV 4#64 false ((0 : Nat) : Int) (fun _ => 0#8))) = x10 at N0 N1 N2 NE ⊢
  replace Hz8 := N0
  replace K2 := N1
  replace RP := N2
  replace hY := NE
  clear N0 N1 N2 NE
  refine xm [some (.int .i64 0)] (by kernel_rfl) (by simp [xr, go_sem]) ?_
  simp only [xw, p0, p1, p2, p3]
  obtain ⟨V, hV⟩ : ∃ V, V = x10.drew := ⟨_, rfl⟩
  have hYV : Ext x10 V := by rw [hV]; exact (Ext.refl _).draw
  have hEV := hideit (Ext.trans (Ext.trans hE.out hY.out) hYV)
  have Z1 := hideit (Hz8.out.carry hYV)
  have B5 := hideit (hB5.out.ext (Ext.trans hY.out hYV))
  clear hE hY hYV
  go_upto_region 8 with (fail)
  refine wp_region_ladm (MvT V.heap.size) (fun X => MvT V.heap.size V X) (mkX V.heap.size 29 999 #[]) [] [] [(0, 0), (0, 1), (0, 2), (0, 3), (0, 4), (0, 5), (0, 6), (0, 7), (0, 8), (0, 9), (0, 10), (0, 11), (0, 12), (0, 13), (0, 14), (0, 15), (0, 16), (0, 17), (0, 18), (0, 19), (0, 20), (0, 21), (0, 22), (0, 23), (0, 24), (0, 25), (0, 26), (0, 27), (0, 28), (2, 29), (1, 30), (1, 31), (3, 32), (0, 33), (0, 34), (0, 35), (0, 36), (0, 37), (0, 38), (0, 39), (0, 40)] (by kernel_rfl) (by kernel_rfl) (by decide +kernel) (by decide +kernel) (by decide +kernel) (by decide +kernel) (mkX_cl _ _ _ _ (by decide)) (fun _ _ h k => mv_trans h k) (by rw [← hV]; exact mv_ext (Ext.refl _)) ?_
  refine wpQ_f _ (.int .i64 0) rfl rfl (fun X hX => by simp [go_sem]) ?_
  simp only [List.getElem_toArray, List.getElem_cons_zero, Act.put, List.setIfInBounds_toArray, List.set_cons_zero, List.set_cons_succ]
  refine wpQ_f _ (.bool true) rfl rfl (fun X hX => by simp [go_sem]) ?_
  simp only [zp4, zp5, zp6, zp0, zp1, zp2, zp3]
  refine wpQ_f _ (.bool true) rfl rfl (fun X hX => by simp [go_sem]) ?_
  simp only [zp4, zp5, zp6, zp0, zp1, zp2, zp3]
  refine wpQ_f _ (.int .i64 0) rfl rfl (fun X hX => by simp [go_sem]) ?_
  simp only [zp4, zp5, zp6, zp0, zp1, zp2, zp3]
  refine wpQ_f _ (.bool true) rfl rfl (fun X hX => by simp [go_sem]) ?_
  simp only [zp4, zp5, zp6, zp0, zp1, zp2, zp3]
  refine wpQ_f _ (.bool true) rfl rfl (fun X hX => by simp [go_sem]) ?_
  simp only [zp4, zp5, zp6, zp0, zp1, zp2, zp3]
  refine wpQ_f _ (.bool true) rfl rfl (fun X hX => by simp [go_sem]) ?_
  simp only [zp4, zp5, zp6, zp0, zp1, zp2, zp3]
  refine wpQ_f _ (.int .i64 160) rfl rfl (fun X hX => by simp [go_sem]) ?_
  simp only [zp4, zp5, zp6, zp0, zp1, zp2, zp3]
  refine wpQ_f _ (.bool true) rfl rfl (fun X hX => by simp [go_sem]) ?_
  simp only [zp4, zp5, zp6, zp0, zp1, zp2, zp3]
  refine wpQ_f _ (.bool true) rfl rfl (fun X hX => by simp [go_sem]) ?_
  simp only [zp4, zp5, zp6, zp0, zp1, zp2, zp3]
  refine wpQ_f _ (.bool true) rfl rfl (fun X hX => by simp [go_sem]) ?_
  simp only [zp4, zp5, zp6, zp0, zp1, zp2, zp3]
  refine wpQ_f _ (.int .i64 0) rfl rfl (fun X hX => by simp [go_sem]) ?_
  simp only [zp4, zp5, zp6, zp0, zp1, zp2, zp3]
  refine wpQ_f _ (.bool true) rfl rfl (fun X hX => by simp [go_sem]) ?_
  simp only [zp4, zp5, zp6, zp0, zp1, zp2, zp3]
  refine wpQ_f _ (.bool true) rfl rfl (fun X hX => by simp [go_sem]) ?_
  simp only [zp4, zp5, zp6, zp0, zp1, zp2, zp3]
  refine wpQ_f _ (.bool true) rfl rfl (fun X hX => by simp [go_sem]) ?_
  simp only [zp4, zp5, zp6, zp0, zp1, zp2, zp3]
  refine wpQ_f _ (.int .i64 0) rfl rfl (fun X hX => by simp [go_sem]) ?_
  simp only [zp4, zp5, zp6, zp0, zp1, zp2, zp3]
  refine wpQ_f _ (.bool true) rfl rfl (fun X hX => by simp [go_sem]) ?_
  simp only [zp4, zp5, zp6, zp0, zp1, zp2, zp3]
  refine wpQ_f _ (.bool true) rfl rfl (fun X hX => by simp [go_sem]) ?_
  simp only [zp4, zp5, zp6, zp0, zp1, zp2, zp3]
  refine wpQ_f _ (.bool true) rfl rfl (fun X hX => by simp [go_sem]) ?_
  simp only [zp4, zp5, zp6, zp0, zp1, zp2, zp3]
  refine wpQ_f _ (.int .i64 0) rfl rfl (fun X hX => by simp [go_sem]) ?_
  simp only [zp4, zp5, zp6, zp0, zp1, zp2, zp3]
  refine wpQ_f _ (.bool true) rfl rfl (fun X hX => by simp [go_sem]) ?_
  simp only [zp4, zp5, zp6, zp0, zp1, zp2, zp3]
  refine wpQ_f _ (.bool true) rfl rfl (fun X hX => by simp [go_sem]) ?_
  simp only [zp4, zp5, zp6, zp0, zp1, zp2, zp3]
  refine wpQ_f _ (.bool true) rfl rfl (fun X hX => by simp [go_sem]) ?_
  simp only [zp4, zp5, zp6, zp0, zp1, zp2, zp3]
  refine wpQ_f _ (.int .i64 3) rfl rfl (fun X hX => by simp [go_sem]) ?_
  simp only [zp4, zp5, zp6, zp0, zp1, zp2, zp3]
  refine wpQ_f _ (.bool true) rfl rfl (fun X hX => by simp [go_sem]) ?_
  simp only [zp4, zp5, zp6, zp0, zp1, zp2, zp3]
  refine wpQ_f _ (.bool true) rfl rfl (fun X hX => by simp [go_sem]) ?_
  simp only [zp4, zp5, zp6, zp0, zp1, zp2, zp3]
  refine wpQ_f _ (.bool true) rfl rfl (fun X hX => by simp [go_sem]) ?_
  simp only [zp4, zp5, zp6, zp0, zp1, zp2, zp3]
  refine wpQ_f _ (v5) rfl rfl (fun X hX => by simp [go_sem]) ?_
  simp only [zp4, zp5, zp6, zp0, zp1, zp2, zp3]
  refine wpQ_f _ (.string (bS 512 (opF exD 5 (seF exD 5 exX)))) rfl rfl (fun X hX => by have cv := convS v5 512 (opF exD 5 (seF exD 5 exX)) X (B5.out.mv hX); simp [go_sem, cv]) ?_
  simp only [zp4, zp5, zp6, zp0, zp1, zp2, zp3]
  refine wpQ_m _ rfl rfl (fun X hX => ⟨.slice (some ⟨X.heap.size, 0, none⟩) 1 1, X.alloc (.cells #[.int .u8 120] 5), by simp [go_sem], ⟨X.heap.size, rfl, hX.2.2.2.1, (0, 0), heap_new _ _ _⟩, mv_ext ((Below.refl _ _).alloc (Nat.le_refl _) _)⟩) ?_
  rintro v29 ⟨_, -, g9, rfl, -⟩
  simp only [zp4, zp5, zp6, zp0, zp1, zp2, zp3]
  refine wpQ_to _ rfl rfl fun X hX => ?_
  obtain ⟨hX1, g', f3, hg', m, hm⟩ := hX
  injection f3 with f3
  injection f3 with f3
  injection f3 with f3
  subst f3
  obtain ⟨Y9, hcv, hmv⟩ := conv_mv (n := 1) hm hg'
  refine ⟨.slice (some ⟨g9, 0, none⟩) 1 1, Y9, by simp [go_sem, hcv], fun Z => MvT V.heap.size V Z ∧ mkX V.heap.size 29 999 #[] 29 (.slice (some ⟨g9, 0, none⟩) 1 1) Z, ⟨mv_trans hX1 hmv, mkX_cl _ _ _ _ (by decide) 29 _ _ _ ⟨g9, rfl, hg', m, hm⟩ hmv⟩, .inr (.inr ⟨fun Z hZ => hZ, hmv, fun A C hA k => ⟨mv_trans hA.1 k, mkX_cl _ _ _ _ (by decide) 29 _ _ _ hA.2 k⟩⟩), ?_⟩
  clear hcv hmv hm hX1
  simp only [zp4, zp5, zp6, zp0, zp1, zp2, zp3]
  refine wpQ_call _ rfl rfl (fun X hX => by simp [go_sem]) (fun X hX => (blk512_any (some ⟨g9, 0, none⟩) 1 1 exX X (by
    obtain ⟨hX1, g', f3, hg', m, hm⟩ := hX
    injection f3 with f3
    injection f3 with f3
    injection f3 with f3
    subst f3
    exact x_bv hm) (by decide)).mono ?_)
  rintro e3 X3 ⟨z3, rfl, hz3, hR3, hX3⟩
  rw [blk_x] at hR3
  refine ⟨_, rfl, fun Z => (MvT V.heap.size V Z ∧ mkX V.heap.size 29 999 #[] 29 (.slice (some ⟨g9, 0, none⟩) 1 1) Z) ∧ BV (.slice (some ⟨z3, 0, none⟩) 512 512) 512 exX Z, ⟨⟨mv_trans hX.1 (mv_ext hX3), mkX_cl _ _ _ _ (by decide) 29 _ _ _ hX.2 (mv_ext hX3)⟩, .inr ⟨⟨z3, 0, none⟩, 512, rfl, Nat.le_refl _, RowAt.lie hR3 512 (Nat.le_refl _)⟩⟩, .inr (.inr ⟨fun Z hZ => hZ.1, mv_ext hX3, fun A C hA k => ⟨⟨mv_trans hA.1.1 k, mkX_cl _ _ _ _ (by decide) 29 _ _ _ hA.1.2 k⟩, hA.2.mv k⟩⟩), ?_⟩
  clear hz3 hR3 hX3
  simp only [zp4, zp5, zp6, zp0, zp1, zp2, zp3]
  refine wpQ_g _ (.string (bS 512 exX)) rfl rfl (fun X hX => by have cv := convS (.slice (some ⟨z3, 0, none⟩) 512 512) 512 exX X hX.2; simp [go_sem, cv]) ?_
  simp only [zp4, zp5, zp6, zp0, zp1, zp2, zp3]
  refine wpQ_f _ (.bool true) rfl rfl (fun X hX => by simp [go_sem, bs_eq]) ?_
  simp only [zp4, zp5, zp6, zp0, zp1, zp2, zp3]
  refine wpQ_f _ (.bool true) rfl rfl (fun X hX => by simp [go_sem]) ?_
  simp only [zp4, zp5, zp6, zp0, zp1, zp2, zp3]
  refine wpQ_f _ (.bool true) rfl rfl (fun X hX => by simp [go_sem]) ?_
  simp only [zp4, zp5, zp6, zp0, zp1, zp2, zp3]
  refine wpQ_f _ (.pointer (some ⟨z8, 0, none⟩)) rfl rfl (fun X hX => by simp [go_sem]) ?_
  simp only [zp4, zp5, zp6, zp0, zp1, zp2, zp3]
  refine wpQ_f _ (.int .u64 (((4#64).toNat : Int))) rfl rfl (fun X hX => by have q : X.cell? ⟨z8, 0, none⟩ = some (.int .u64 ((4#64).toNat : Int)) := mv_cell hX _ _ (Z1.out.1 0 (by decide)); simp [go_sem, q]) ?_
  simp only [zp4, zp5, zp6, zp0, zp1, zp2, zp3]
  refine wpQ_f _ (.bool true) rfl rfl (fun X hX => by simp [go_sem]) ?_
  simp only [zp4, zp5, zp6, zp0, zp1, zp2, zp3]
  refine wpQ_f _ (.bool true) rfl rfl (fun X hX => by simp [go_sem]) ?_
  simp only [zp4, zp5, zp6, zp0, zp1, zp2, zp3]
  refine wpQ_f _ (.bool true) rfl rfl (fun X hX => by simp [go_sem]) ?_
  simp only [List.getElem_toArray, List.getElem_cons_zero, List.getElem_cons_succ, Act.put, List.setIfInBounds_toArray, List.set_cons_zero]
  refine wpQ_nil fun Y hY => ?_
  have hE := hideit (Ext.trans hEV.out (mv_back (Ext.refl V) (Nat.le_refl _) hY.1.1))
  clear hY
  go_wp2
  go_ret
  exact ⟨rfl, hE.out⟩
end Go.Proofs.YtfpfgbhdehbggaaGreatDoor
