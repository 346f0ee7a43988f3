/-
  Blocks read one behind the other. Lists of redos, one behind the other.
-/
import Derived.Test.YtiakkclabgelfaaDoorQc1
import Derived.Test.YtiakkclabgelfaaDoorQc45
import Derived.Test.YtiakkclabgelfaaDoorQc40
namespace Go.Proofs.YtiakkclabgelfaaDoor
open Go.RowKit Go.BigFrame Go.Maps
set_option linter.unusedVariables false
set_option maxRecDepth 20000
theorem BLs.nil (B : Nat) (fs : Nat → Nat → BitVec 8) (X : World) : BLs B (.slice none 0 0) 0 (fun _ => .slice none 0 0) fs X := ⟨own_nil _ _ _ _, fun i hi => absurd hi (Nat.not_lt_zero _), fun i hi => absurd hi (Nat.not_lt_zero _)⟩
theorem dv_read2 {F : Nat → Prop} {p N : Nat} {A D : Nat → Nat → BitVec 8} {C : Nat} {W : World} (h : DV F p N A D C W) (n : Nat) (hn : n < N) (hC : C ≤ 4398046511104) : Calls Tryd.prog 33 #[.pointer (some ⟨p, 0, none⟩), .int .i64 (n : Int)] W fun e w' => ∃ z cp, e = .returned (.tuple #[.slice (some ⟨z, 0, none⟩) 512 cp, .int .i64 0]) ∧ W.heap.size ≤ z ∧ 512 ≤ cp ∧ RowAt z 512 (yv (D n)) w' ∧ Ext W w' :=
  (dv_read h n hn hC).mono fun e w' ⟨v, h1, h2, h3⟩ => by
    obtain ⟨z, cp, rfl, hz, hcp, _, hZ⟩ := h2.lies (by decide)
    exact ⟨z, cp, h1, hz, hcp, hZ, h3⟩
set_option maxRecDepth 20000 in
set_option maxHeartbeats 4000000 in
theorem reading_ok (p at_ m N : Nat) (F : Nat → Prop) (A D : Nat → Nat → BitVec 8) (C : Nat) (w : World) (hD : DV F p N A D C w) (hm : at_ + m ≤ N) (hm9 : m ≤ 1000) (hC : C ≤ 4398046511104) : Calls Tryd.prog 35 #[.pointer (some ⟨p, 0, none⟩), .int .i64 (at_ : Int), .int .i64 (m : Int)] w fun e w' => ∃ v us, e = .returned (.tuple #[v, .int .i64 0]) ∧ BLs w.heap.size v m us (fun i => D (at_ + i)) w' ∧ Ext w w' := by
  have hN4 := hideit hD.n4
  replace hD := hideit hD
  have hE := hideit (Ext.refl w)
  go_enter Tryd.func35, Tryd.ntmps35
  go_upto_region 1 with (fail)
  refine wp_region_lit ?_
  refine xm [some (.slice none 0 0)] (by kernel_rfl) (by simp [xr, go_sem]) ?_
  simp only [xw, p0, p1, p2, p3]
  go_upto_region 2 with (fail)
  refine wp_region_lit ?_
  refine xm [some (.int .i64 (m : Int)), some (.int .i64 0)] (by kernel_rfl) (by simp [xr, go_sem]) ?_
  simp only [xw, p0, p1, p2, p3]
  go_upto_region 3 with (fail)
  go_loopw [8, 9, 10, 11, 13] (fun v _ _ _ t X => ∃ (k : Nat) (us : Nat → Value), k ≤ m ∧ t = .int .i64 (k : Int) ∧ BLs w.heap.size v k us (fun i => D (at_ + i)) X ∧ Ext w X) (fun _ _ _ _ t _ => 2000 - (intOf t).toNat)
  case atStart => exact ⟨0, _, Nat.zero_le _, rfl, BLs.nil _ _ _, hE.out⟩
  case round =>
    clear hE
    obtain ⟨k, us, hk, rfl, hI, hE⟩ := hrel
    replace hI := hideit hI
    replace hE := hideit hE
    obtain ⟨ob, cb, rfl⟩ := hI.out.form
    by_cases hlt : k < m
    · have k1 : (k : Int) < (m : Int) := by omega
      have ek : IntKind.i64.wrap ((k : Int) + 1) = ((k + 1 : Nat) : Int) := by rw [IntKind.wrap_i64]; omega
      have ea : IntKind.i64.wrap ((at_ : Int) + (k : Int)) = ((at_ + k : Nat) : Int) := by have := hN4.out; rw [IntKind.wrap_i64]; omega
      replace ek := hideit ek
      replace ea := hideit ea
      replace k1 := hideit k1
      go_upto_region 3 with (fail)
      refine wp_region_lit ?_
      refine xm [some (.bool true)] (by kernel_rfl) (by simp [xr, go_sem, k1.out]) ?_
      simp only [xw, p0, p1, p2, p3]
      go_upto_region 4 with (fail)
      refine wp_region_lit ?_
      refine xm [some (.int .i64 (k : Int)), some (.int .i64 (k : Int))] (by kernel_rfl) (by simp [xr, go_sem]) ?_
      simp only [xw, p0, p1, p2, p3]
      have h0E := hE
      have hI0 := hI
      go_upto_region 5 with (fail)
      refine wp_region_lit ?_
      refine xm [some (.pointer (some ⟨p, 0, none⟩)), some (.int .i64 (at_ : Int)), some (.int .i64 (k : Int)), some (.int .i64 ((at_ + k : Nat) : Int))] (by kernel_rfl) (by simp [xr, go_sem, ea.out]) ?_
      simp only [xw, p0, p1, p2, p3]
      refine wpList_call rfl (by simp [go_sem]) ((dv_read2 (hD.out.ext hE.out) (at_ + k) (by omega) hC).mono ?_)
      rintro e y1 ⟨z, cp, rfl, hz, hcp, hZ, hX1⟩
      refine ⟨_, rfl, ?_⟩
      simp only [zp0, zp1, zp2, zp3]
      replace hI := hideit (hI.out.ext hX1)
      replace hE := hideit (Ext.trans hE.out (hX1))
      have hzB : Hid (w.heap.size ≤ z) := hideit (Nat.le_trans (Below.size h0E.out) hz)
      have hzn : Hid ((Value.slice ob k cb).ownBlock ≠ some z) := fun e => by
        have := (hI0.out.own.lt z e).2
        omega
      replace hZ := hideit (RowAt.lie hZ 512 (Nat.le_refl _))
      clear hX1 h0E hI0 hz
      refine xm [some (.tuple #[.slice (some ⟨z, 0, none⟩) 512 cp, .int .i64 0]), some (.slice (some ⟨z, 0, none⟩) 512 cp), some (.int .i64 0), some (.slice (some ⟨z, 0, none⟩) 512 cp), some (.int .i64 0)] (by kernel_rfl) (by simp [xr, go_sem]) ?_
      simp only [xw, p0, p1, p2, p3]
      go_upto_region 6 with (fail)
      refine wp_region_lit ?_
      refine xm [some (.int .i64 0), some (.bool false)] (by kernel_rfl) (by simp [xr, go_sem]) ?_
      simp only [xw, p0, p1, p2, p3]
      go_upto_region 8 with (fail)
      refine wp_region_lit ?_
      refine xm [some (.slice ob k cb), some (.slice (some ⟨z, 0, none⟩) 512 cp)] (by kernel_rfl) (by simp [xr, go_sem]) ?_
      simp only [xw, p0, p1, p2, p3]
      obtain ⟨v4, x4, r4, hI4, hB4⟩ := hI.out.app (Below.size hE.out) (by omega) hcp hzB.out hZ.out hzn.out 49
      have hE4 := hideit (below_ext hE.out (Nat.le_refl _) hB4)
      have hI5 : Hid (BLs w.heap.size v4 (k + 1) (up1 us k (.slice (some ⟨z, 0, none⟩) 512 cp)) (fun i => D (at_ + i)) x4) := hI4.congr fun i hi => by
        by_cases e : i = k
        · subst e
          rw [up1_same]
        · rw [up1_other _ e]
      clear hI hI4 hE hB4 hZ hzB hzn
      refine wpList_to rfl (.slice (some ⟨y1.heap.size, 0, none⟩) 1 1) (y1.alloc (.cells #[.slice (some ⟨z, 0, none⟩) 512 cp] 39)) (by simp [go_sem]) ?_
      simp only [zp0, zp1, zp2, zp3]
      refine wpList_to rfl v4 x4 (exec_app (.tmp 27) (.tmp 29) rfl rfl rfl r4) ?_
      simp only [zp0, zp1, zp2, zp3]
      clear r4
      refine xm [some (v4)] (by kernel_rfl) (by simp [xr, go_sem]) ?_
      simp only [xw, p0, p1, p2, p3]
      go_upto_region 9 with (fail)
      refine wp_region_lit ?_
      refine xm [some (.int .i64 ((k + 1 : Nat) : Int)), some (.int .i64 ((k + 1 : Nat) : Int))] (by kernel_rfl) (by simp [xr, go_sem, ek.out]) ?_
      simp only [xw, p0, p1, p2, p3]
      go_wp2
      exact ⟨⟨k + 1, _, hlt, rfl, hI5.out, hE4.out⟩, by simp [intOf]; omega⟩
    · obtain rfl : k = m := by omega
      go_upto_region 3 with (fail)
      refine wp_region_lit ?_
      refine xm [some (.bool false)] (by kernel_rfl) (by simp [xr, go_sem]) ?_
      simp only [xw, p0, p1, p2, p3]
      go_upto_region 10 with (fail)
      refine wp_region_lit ?_
      refine xm [some (.slice ob k cb), some (.slice ob k cb), some (.int .i64 0)] (by kernel_rfl) (by simp [xr, go_sem]) ?_
      simp only [xw, p0, p1, p2, p3]
      go_wp2
      go_ret2
      exact ⟨_, us, rfl, hI.out, hE.out⟩
end Go.Proofs.YtiakkclabgelfaaDoor
namespace Go.Proofs.YtiakkclabgelfaaDoor
open Go.RowKit Go.BigFrame Go.Maps
set_option linter.unusedVariables false
set_option maxRecDepth 20000
theorem TabC.keep {F : Nat → Prop} {W Y : World} (h : TabC W) (k : Keeps F W Y) (hn : ¬ F 0) : TabC Y :=
  ⟨fun i hi => (World.cell?_of_block (a := ⟨0, i, none⟩) (k.block 0 h.2 hn)).trans (h.1 i hi), Nat.lt_of_lt_of_le h.2 k.size⟩
theorem OwnK.keep {K : Nat} {F : Nat → Prop} {base : Nat} {e : TypeId} {v : Value} {n : Nat} {g : Nat → Value} {W Y : World} (h : OwnK K base e v n g W) (k : Keeps F W Y) (hn : ∀ b, v.ownBlock = some b → ¬ F b) : OwnK K base e v n g Y := by
  rcases h with ⟨h1, h2⟩
  refine ⟨h1, ?_⟩
  rcases h2 with h2 | ⟨b, cap, cur, rfl, hb, hg, hr⟩
  · exact .inl h2
  · exact .inr ⟨b, cap, cur, rfl, hb, (k.block b (Array.getElem?_eq_some_iff.1 hg).1 (hn b rfl)).trans hg, hr⟩
theorem OwnK.down {K base base' : Nat} {e : TypeId} {v : Value} {n : Nat} {g : Nat → Value} {w : World} (h : OwnK K base e v n g w) (hb : base' ≤ base) : OwnK K base' e v n g w := by
  obtain ⟨h1, h2⟩ := h
  refine ⟨h1, ?_⟩
  rcases h2 with h2 | ⟨k, cap, cur, h3, h4, h5⟩
  · exact .inl h2
  · exact .inr ⟨k, cap, cur, h3, Nat.le_trans hb h4, h5⟩
section
variable {B : Nat} {v : Value} {m : Nat} {bs bs' : Nat → Int} {us us' : Nat → Value} {ls ls' : Nat → Nat} {fs fs' : Nat → Nat → BitVec 8} {X Y : World}
theorem RDs.keep {F : Nat → Prop} (h : RDs B v m bs us ls fs X) (k : Keeps F X Y) (hF : ∀ b, B ≤ b → ¬ F b) : RDs B v m bs us ls fs Y :=
  ⟨h.own.keep k fun b hb => hF b (h.own.lt b hb).1, fun i hi => ⟨(h.byt i hi).1.keep k fun b hb => hF b ((h.byt i hi).1.lt b hb).1, (h.byt i hi).2⟩⟩
theorem rdC_congr (e1 : ∀ i, i < m → bs i = bs' i) (e2 : ∀ i, i < m → us i = us' i) (j : Nat) (hj : j < m * 2) : rdC bs us j = rdC bs' us' j := by
  unfold rdC
  rw [e1 _ (by omega), e2 _ (by omega)]
theorem RDs.congr (h : RDs B v m bs us ls fs X) (e1 : ∀ i, i < m → bs i = bs' i) (e2 : ∀ i, i < m → us i = us' i) (e3 : ∀ i, i < m → ls i = ls' i) (e4 : ∀ i, i < m → fs i = fs' i) : RDs B v m bs' us' ls' fs' X :=
  ⟨h.own.congr (rdC_congr e1 e2), fun i hi => by rw [← e2 i hi, ← e3 i hi, ← e4 i hi]; exact h.byt i hi⟩
def catN {α : Type} (m : Nat) (f g : Nat → α) : Nat → α := fun i => if i < m then f i else g (i - m)
theorem catN_lo {α : Type} {m i : Nat} (f g : Nat → α) (h : i < m) : catN m f g i = f i := if_pos h
theorem catN_hi {α : Type} {m i : Nat} (f g : Nat → α) (h : m ≤ i) : catN m f g i = g (i - m) := if_neg (by omega)
theorem RDs.cat {B2 n : Nat} {v2 : Value} (h : RDs B v m bs us ls fs X) (h2 : RDs B2 v2 n bs' us' ls' fs' X) (hB : B ≤ X.heap.size) (hB2 : B ≤ B2) (hn : 0 < n) (hm : m + n ≤ 1000000) (hvb : ∀ z, v.ownBlock = some z → z < B2) (ty : TypeId) :
    ∃ v' Y, (Builtin.append_ #[22, 22] ty #[v, v2]).run Tryd.prog X = .ok v' Y ∧ RDs B v' (m + n) (catN m bs bs') (catN m us us') (catN m ls ls') (catN m fs fs') Y ∧ Below B X Y ∧ X.grownBy Y v.ownBlock := by
  obtain ⟨b, cp, rfl, hbB, _, _, hr⟩ := h2.own.lies hn
  obtain ⟨i, zz, e1, e2, e3, e4, e5⟩ := elem23.info
  have hform : ∀ i, i < n → (us' i).oneCell' = true := fun i hi => by
    obtain ⟨o, c, e⟩ := own_form5 (h2.byt i hi).1
    rw [e]
    rfl
  obtain ⟨v', Y, a1, a2, a3, _, a5⟩ := run_append_own_at (P := Tryd.prog) X B 22 ty 47 i zz 2 32 elem23.slice e1 e2 e3 e4 e5 (by decide) v m (row (m * 2) (rdC bs us)) h.own ⟨b, 0, none⟩ n cp (row (n * 2) (rdC bs' us')) (by rw [row_length]) (fun j x hj => by
    obtain ⟨hj', rfl⟩ := row_some hj
    rw [addr0]
    exact hr.1 j hj') (fun x hx => by
    obtain ⟨j, hj, rfl⟩ := List.mem_map.1 hx
    have hj' : j < n * 2 := by simpa using hj
    unfold rdC
    split
    · rfl
    · exact hform _ (by omega)) (by unfold maxLen; omega) (by omega) (by omega)
  have hown : ∀ z', z' < X.heap.size → v.ownBlock ≠ some z' → v'.ownBlock ≠ some z' := fun z' hz' hn e => by
    rcases a5 with q | q
    · exact hn (q ▸ e)
    · rw [q] at e
      injection e with e
      omega
  refine ⟨v', Y, a1, ⟨?_, fun j hj => ?_⟩, below_grown hB a3 fun q hq => (h.own.lt q hq).1, a3⟩
  · unfold OwnK
    have hrw := row_append (m * 2) (n * 2) (rdC bs us) (rdC bs' us') (rdC (catN m bs bs') (catN m us us')) (fun j hj => by
      unfold rdC
      rw [catN_lo _ _ (by omega), catN_lo _ _ (by omega)]) (fun j hj => by
      unfold rdC
      rw [catN_hi _ _ (by omega), catN_hi _ _ (by omega), show (m * 2 + j) / 2 - m = j / 2 by omega, show (m * 2 + j) % 2 = j % 2 by omega])
    rw [Nat.add_mul, ← hrw]
    exact a2
  · by_cases e : j < m
    · rw [catN_lo _ _ e, catN_lo _ _ e, catN_lo _ _ e]
      exact ⟨(h.byt j e).1.kept a3 (own_ne (h.byt j e).2), fun z hz => hown z ((h.byt j e).1.lt z hz).2 ((h.byt j e).2 z hz)⟩
    · rw [catN_hi _ _ (by omega), catN_hi _ _ (by omega), catN_hi _ _ (by omega)]
      have hne : ∀ z, (us' (j - m)).ownBlock = some z → v.ownBlock ≠ some z := fun z hz hv => by
        have := ((h2.byt (j - m) (by omega)).1.lt z hz).1
        have := hvb z hv
        omega
      exact ⟨((h2.byt (j - m) (by omega)).1.kept a3 (own_ne hne)).down hB2, fun z hz => hown z (((h2.byt (j - m) (by omega)).1.lt z hz).2) (hne z hz)⟩
end
def ofN (tn : Nat → Nat) : Nat → Nat
  | 0 => 0
  | k + 1 => ofN tn k + (tn k + 2)
def smN (tn : Nat → Nat) : Nat → Nat
  | 0 => 0
  | k + 1 => smN tn k + tn k
def nuK (nu : BitVec 64) (k : Nat) : BitVec 64 := nu + BitVec.ofNat 64 k
theorem nuK_zero (nu : BitVec 64) : nuK nu 0 = nu := by unfold nuK; simp
theorem nuK_succ (nu : BitVec 64) (k : Nat) : nuK nu (k + 1) = nuK nu k + 1 := by
  unfold nuK
  rw [BitVec.add_assoc]
  congr 1
  apply BitVec.eq_of_toNat_eq
  rw [BitVec.toNat_add, BitVec.toNat_ofNat, BitVec.toNat_ofNat]
  show _ = (k % 2 ^ 64 + 1) % 2 ^ 64
  omega
def caN {α : Type} (d : α) (tn : Nat → Nat) (t : Nat → Nat → α) : Nat → Nat → α
  | 0 => fun _ => d
  | k + 1 => catN (smN tn k) (caN d tn t k) (t k)
theorem ofN_mono (tn : Nat → Nat) {a b : Nat} (h : a ≤ b) : ofN tn a ≤ ofN tn b := by
  induction b with
  | zero => rw [Nat.le_zero.1 h]; exact Nat.le_refl _
  | succ b ih =>
    by_cases e : a = b + 1
    · rw [e]; exact Nat.le_refl _
    · exact Nat.le_trans (ih (by omega)) (Nat.le_add_right _ _)
theorem smN_le (tn : Nat → Nat) : ∀ k, smN tn k + 2 * k = ofN tn k
  | 0 => rfl
  | k + 1 => by
    have := smN_le tn k
    show smN tn k + tn k + 2 * (k + 1) = ofN tn k + (tn k + 2)
    omega
end Go.Proofs.YtiakkclabgelfaaDoor
