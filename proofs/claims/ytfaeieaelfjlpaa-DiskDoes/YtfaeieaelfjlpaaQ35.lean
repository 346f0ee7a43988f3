/-
  Each call of both disks, whatever it is asked: one answer, one state. Appends to an empty row, bytes that stand, and what a step of both disks leaves.
-/
import Derived.Test.YtfaeieaelfjlpaaQ34
namespace Go.Proofs.Ytfaeieaelfjlpaa
open Go.RowKit Go.BigFrame Go.Maps
section
variable {F G : Nat → Prop} {p x : Nat} {s : DSt} {C : Nat} {M : DM} {stp : Bool} {cl : Int} {R : RM} {W : World} {kb kw : Nat → Int}
/-- may it be written, and is there power? -/
def wOk (s : DSt) (m : Int) (l : Nat) : Bool := inN s.N m && decide (l = 512) && decide (s.pw ≠ 0)
def wE (s : DSt) (m : Int) (l : Nat) : Int := if cbE s.N m l = 0 then (if s.pw = 0 then 102 else 0) else cbE s.N m l
def wS (s : DSt) (m : Int) (l : Nat) (f : Nat → BitVec 8) : DSt := if wOk s m l = true then wrS s m.toNat f else s
theorem cbE_zero {N : Nat} {m : Int} {l : Nat} (h : cbE N m l = 0) : ∃ n : Nat, m = (n : Int) ∧ n < N ∧ l = 512 := by
  unfold cbE at h
  by_cases h1 : inN N m = true
  · rw [if_pos h1] at h
    by_cases h2 : l = 512
    · obtain ⟨n, e1, e2⟩ := inN_spec h1
      exact ⟨n, e1, e2, h2⟩
    · rw [if_neg h2] at h
      exact absurd h (by decide)
  · rw [if_neg h1] at h
    exact absurd h (by decide)
theorem inN_of {N n : Nat} (h : n < N) : inN N (n : Int) = true := by unfold inN; simp; omega
theorem wOk_no {m : Int} {l : Nat} (h : cbE s.N m l ≠ 0) : wOk s m l = false := by
  unfold wOk
  unfold cbE at h
  by_cases h1 : inN s.N m = true
  · rw [if_pos h1] at h
    by_cases h2 : l = 512
    · rw [if_pos h2] at h
      exact absurd rfl h
    · simp [h2]
  · simp [h1]
theorem wOk_off {m : Int} {l : Nat} (h : s.pw = 0) : wOk s m l = false := by unfold wOk; simp [h]
theorem wOk_yes {n : Nat} (h : n < s.N) (hp : s.pw ≠ 0) : wOk s (n : Int) 512 = true := by unfold wOk; rw [inN_of h]; simp [hp]
theorem wrtD (h : DkM F p s C M W) (m : Int) (o : Option Addr) (l c : Nat) (f : Nat → BitVec 8) (hb : PV (.slice o l c) l f W) (hC : C ≤ 4398046511104) :
    Calls Try.prog 11 #[.pointer (some ⟨p, 0, none⟩), .int .i64 m, .slice o l c] W fun e w' => e = .returned (.int .i64 (wE s m l)) ∧ ∃ F' M', DkM F' p (wS s m l f) (C + 1) M' w' ∧ Keeps F W w' ∧ (∀ i, F' i → F i ∨ W.heap.size ≤ i) ∧ (∀ ob, ob < W.heap.size → (∀ n' j, n' < s.N → j < s.kc n' → (M.us n' j).ownBlock ≠ some ob) → ∀ n' j, n' < s.N → j < (wS s m l f).kc n' → (M'.us n' j).ownBlock ≠ some ob) ∧ M'.sv = M.sv := by
  by_cases h1 : cbE s.N m l = 0
  · obtain ⟨n, rfl, hn, rfl⟩ := cbE_zero h1
    by_cases h2 : s.pw = 0
    · refine (dwrite_off h n hn o c h2).mono ?_
      rintro e w' ⟨rfl, rfl⟩
      unfold wE wS
      rw [if_pos h1, if_pos h2, wOk_off h2]
      exact ⟨rfl, F, M, h.mono (by omega), Keeps.refl _ _, fun i hi => .inl hi, fun ob _ hav => hav, rfl⟩
    · refine (dwriteW h n hn h2 o c f (hb.bv (by decide)) hC).mono ?_
      rintro e w' ⟨rfl, F', M', a1, a2, a3, a4, a5⟩
      unfold wE wS
      rw [if_pos h1, if_neg h2, wOk_yes hn h2, if_pos rfl, Int.toNat_natCast]
      exact ⟨rfl, F', M', a1, a2, a3, a4, a5⟩
  · refine (dwrite_bad h m o l c h1).mono ?_
    rintro e w' ⟨rfl, rfl⟩
    unfold wE wS
    rw [if_neg h1, wOk_no h1]
    exact ⟨rfl, F, M, h.mono (by omega), Keeps.refl _ _, fun i hi => .inl hi, fun ob _ hav => hav, rfl⟩
def wC (s : DSt) (m : Int) (l : Nat) (stp : Bool) (cl : Int) : Int := if wOk s m l = true then clD stp cl else cl
theorem wrtR (h : RdM G x s stp cl R W) (hoff : decide (s.pw = 0) = offR stp cl) (hpos : s.pw ≠ 0 → stp = true → 0 < cl) (m : Int) (o : Option Addr) (l c : Nat) (f : Nat → BitVec 8) (hb : PV (.slice o l c) l f W) (hk : ∀ n, n < s.N → s.kc n ≤ 4398046511103) :
    Calls Try.prog 30 #[.pointer (some ⟨x, 0, none⟩), .int .i64 m, .slice o l c] W fun e w' => e = .returned (.int .i64 (wE s m l)) ∧ ∃ G' R', R'.bb = R.bb ∧ RdM G' x (wS s m l f) stp (wC s m l stp cl) R' w' ∧ Keeps (fun i => i = x ∨ i = R.bb) W w' ∧ (∀ i, G' i → G i ∨ W.heap.size ≤ i) := by
  by_cases h1 : cbE s.N m l = 0
  · obtain ⟨n, rfl, hn, rfl⟩ := cbE_zero h1
    by_cases h2 : s.pw = 0
    · rw [decide_eq_true h2] at hoff
      refine (rwrite_off h n hn o c hoff.symm).mono ?_
      rintro e w' ⟨rfl, rfl⟩
      unfold wE wS wC
      rw [if_pos h1, if_pos h2, wOk_off h2]
      exact ⟨rfl, G, R, rfl, h, Keeps.refl _ _, fun i hi => .inl hi⟩
    · rw [decide_eq_false h2] at hoff
      refine (rwrite h n hn o c f (hb.bv (by decide)) hoff.symm (hpos h2) (hk n hn)).mono ?_
      rintro e w' ⟨rfl, G', R', a1, a2, a3, a4⟩
      unfold wE wS wC
      rw [if_pos h1, if_neg h2, wOk_yes hn h2, if_pos rfl, if_pos rfl, Int.toNat_natCast]
      exact ⟨rfl, G', R', a1, a2, a3, a4⟩
  · refine (rwrite_bad h m o l c h1).mono ?_
    rintro e w' ⟨rfl, rfl⟩
    unfold wE wS wC
    rw [if_neg h1, wOk_no h1]
    exact ⟨rfl, G, R, rfl, h, Keeps.refl _ _, fun i hi => .inl hi⟩
/-- the counters behind a call that was counted -/
theorem cnt_on (on : stp = true → cl = s.pw ∧ 0 ≤ cl) (hp : s.pw ≠ 0) : stp = true → clD stp cl = spE s.pw ∧ 0 ≤ clD stp cl := fun e => by
  have := on e
  unfold clD spE
  rw [if_pos e, if_pos (by omega)]
  omega
theorem cnt_no (no : stp = false → s.pw < 0) : stp = false → spE s.pw < 0 := fun e => by
  have := no e
  unfold spE
  rw [if_neg (by omega)]
  exact this
theorem wr_on (h : Tw F G p x s C M stp cl R W) (m : Int) (l : Nat) (f : Nat → BitVec 8) : stp = true → wC s m l stp cl = (wS s m l f).pw ∧ 0 ≤ wC s m l stp cl := by
  unfold wC wS
  by_cases e : wOk s m l = true
  · rw [if_pos e, if_pos e]
    exact cnt_on h.on (by unfold wOk at e; simp at e; exact e.2)
  · rw [if_neg e, if_neg e]
    exact h.on
theorem wr_no (h : Tw F G p x s C M stp cl R W) (m : Int) (l : Nat) (f : Nat → BitVec 8) : stp = false → (wS s m l f).pw < 0 := by
  unfold wS
  by_cases e : wOk s m l = true
  · rw [if_pos e]
    exact cnt_no h.no
  · rw [if_neg e]
    exact h.no
theorem wS_N (m : Int) (l : Nat) (f : Nat → BitVec 8) : (wS s m l f).N = s.N := by
  unfold wS
  split <;> rfl
/-- a read -/
def rOk (s : DSt) (m : Int) : Bool := inN s.N m && decide (s.pw ≠ 0)
def rE (s : DSt) (m : Int) : Int := if inN s.N m = true then (if s.pw = 0 then 102 else 0) else 100
def rL (s : DSt) (m : Int) : Nat := if rOk s m = true then 512 else 0
theorem redD (h : DkM F p s C M W) (m : Int) (hC : C ≤ 4398046511104) : Calls Try.prog 19 #[.pointer (some ⟨p, 0, none⟩), .int .i64 m] W fun e w' => ∃ v, e = .returned (.tuple #[v, .int .i64 (rE s m)]) ∧ BV v (rL s m) (hasF s m.toNat) w' ∧ Ext W w' := by
  by_cases h1 : inN s.N m = true
  · obtain ⟨n, rfl, hn⟩ := inN_spec h1
    by_cases h2 : s.pw = 0
    · refine (dread_off h n hn h2).mono ?_
      rintro e w' ⟨rfl, rfl⟩
      unfold rE rL rOk
      rw [if_pos h1, if_pos h2]
      simp only [h2]
      exact ⟨_, rfl, .inl ⟨rfl, by simp⟩, Ext.refl _⟩
    · refine (dread h n hn h2 hC).mono ?_
      rintro e w' ⟨v, rfl, a1, a2⟩
      unfold rE rL rOk
      rw [if_pos h1, if_neg h2, h1, Int.toNat_natCast]
      exact ⟨v, rfl, by simpa [h2] using a1.bv, a2⟩
  · refine (dread_bad h m (by simpa using h1)).mono ?_
    rintro e w' ⟨rfl, rfl⟩
    unfold rE rL rOk
    rw [if_neg h1]
    exact ⟨_, rfl, .inl ⟨rfl, by simp [h1]⟩, Ext.refl _⟩
theorem redR (h : RdM G x s stp cl R W) (hoff : decide (s.pw = 0) = offR stp cl) (m : Int) : Calls Try.prog 31 #[.pointer (some ⟨x, 0, none⟩), .int .i64 m] W fun e w' => ∃ v, e = .returned (.tuple #[v, .int .i64 (rE s m)]) ∧ BV v (rL s m) (hasF s m.toNat) w' ∧ Ext W w' := by
  by_cases h1 : inN s.N m = true
  · obtain ⟨n, rfl, hn⟩ := inN_spec h1
    by_cases h2 : s.pw = 0
    · rw [decide_eq_true h2] at hoff
      refine (rread_off h n hn hoff.symm).mono ?_
      rintro e w' ⟨rfl, rfl⟩
      unfold rE rL rOk
      rw [if_pos h1, if_pos h2]
      simp only [h2]
      exact ⟨_, rfl, .inl ⟨rfl, by simp⟩, Ext.refl _⟩
    · rw [decide_eq_false h2] at hoff
      refine (rread h n hn hoff.symm).mono ?_
      rintro e w' ⟨v, rfl, a1, a2⟩
      unfold rE rL rOk
      rw [if_pos h1, if_neg h2, h1, Int.toNat_natCast]
      exact ⟨v, rfl, by simpa [h2] using a1, a2⟩
  · refine (rread_bad h m (by simpa using h1)).mono ?_
    rintro e w' ⟨rfl, rfl⟩
    unfold rE rL rOk
    rw [if_neg h1]
    exact ⟨_, rfl, .inl ⟨rfl, by simp [h1]⟩, Ext.refl _⟩
/-- a flush -/
def fE (s : DSt) : Int := if s.pw = 0 then 102 else 0
def fS (s : DSt) : DSt := if s.pw = 0 then s else flS s
def fC (s : DSt) (stp : Bool) (cl : Int) : Int := if s.pw = 0 then cl else clD stp cl
theorem fluD (h : DkM F p s C M W) (hC : C ≤ 4398046511104) : Calls Try.prog 13 #[.pointer (some ⟨p, 0, none⟩)] W fun e w' => e = .returned (.int .i64 (fE s)) ∧ ∃ M', DkM F p (fS s) C M' w' ∧ Keeps F W w' := by
  unfold fE fS
  by_cases h2 : s.pw = 0
  · refine (dflush_off h h2).mono ?_
    rintro e w' ⟨rfl, rfl⟩
    rw [if_pos h2, if_pos h2]
    exact ⟨rfl, M, h, Keeps.refl _ _⟩
  · rw [if_neg h2, if_neg h2]
    exact dflush h h2 hC
theorem fluR (h : RdM G x s stp cl R W) (hoff : decide (s.pw = 0) = offR stp cl) (hpos : s.pw ≠ 0 → stp = true → 0 < cl) : Calls Try.prog 32 #[.pointer (some ⟨x, 0, none⟩)] W fun e w' => e = .returned (.int .i64 (fE s)) ∧ ∃ R', R'.bb = R.bb ∧ RdM G x (fS s) stp (fC s stp cl) R' w' ∧ Keeps (fun i => i = x ∨ i = R.bb) W w' := by
  unfold fE fS fC
  by_cases h2 : s.pw = 0
  · rw [decide_eq_true h2] at hoff
    refine (rflush_off h hoff.symm).mono ?_
    rintro e w' ⟨rfl, rfl⟩
    rw [if_pos h2, if_pos h2, if_pos h2]
    exact ⟨rfl, R, rfl, h, Keeps.refl _ _⟩
  · rw [decide_eq_false h2] at hoff
    rw [if_neg h2, if_neg h2, if_neg h2]
    refine (rflush h hoff.symm (hpos h2)).mono ?_
    rintro e w' ⟨rfl, R', a1, a2, a3⟩
    exact ⟨rfl, R', a1, a2.congr rfl (fun _ _ => rfl) (fun _ _ => rfl) (fun _ _ => rfl), a3⟩
theorem fl_on (h : Tw F G p x s C M stp cl R W) : stp = true → fC s stp cl = (fS s).pw ∧ 0 ≤ fC s stp cl := by
  unfold fC fS
  by_cases e : s.pw = 0
  · rw [if_pos e, if_pos e]
    exact h.on
  · rw [if_neg e, if_neg e]
    exact cnt_on h.on e
theorem fl_no (h : Tw F G p x s C M stp cl R W) : stp = false → (fS s).pw < 0 := by
  unfold fS
  by_cases e : s.pw = 0
  · rw [if_pos e]
    exact h.no
  · rw [if_neg e]
    exact cnt_no h.no
/-- a block rewritten -/
def tS (s : DSt) (m : Int) (l : Nat) (f : Nat → BitVec 8) : DSt := if cbE s.N m l = 0 then taS s m.toNat f else s
theorem tamD (h : DkM F p s C M W) (m : Int) (o : Option Addr) (l c : Nat) (f : Nat → BitVec 8) (hb : PV (.slice o l c) l f W) : Calls Try.prog 21 #[.pointer (some ⟨p, 0, none⟩), .int .i64 m, .slice o l c] W fun e w' => e = .returned (.int .i64 (cbE s.N m l)) ∧ ∃ M', DkM F p (tS s m l f) C M' w' ∧ Keeps F W w' := by
  unfold tS
  by_cases h1 : cbE s.N m l = 0
  · obtain ⟨n, rfl, hn, rfl⟩ := cbE_zero h1
    rw [if_pos h1, h1, Int.toNat_natCast]
    exact dtamper h n hn o c f (hb.bv (by decide))
  · refine (dtamper_bad h m o l c h1).mono ?_
    rintro e w' ⟨rfl, rfl⟩
    rw [if_neg h1]
    exact ⟨rfl, M, h, Keeps.refl _ _⟩
theorem tamR (h : RdM G x s stp cl R W) (m : Int) (o : Option Addr) (l c : Nat) (f : Nat → BitVec 8) (hb : PV (.slice o l c) l f W) : Calls Try.prog 34 #[.pointer (some ⟨x, 0, none⟩), .int .i64 m, .slice o l c] W fun e w' => e = .returned (.int .i64 (cbE s.N m l)) ∧ ∃ R', R'.bb = R.bb ∧ RdM G x (tS s m l f) stp cl R' w' ∧ Keeps (fun i => i = x ∨ i = R.bb) W w' := by
  unfold tS
  by_cases h1 : cbE s.N m l = 0
  · obtain ⟨n, rfl, hn, rfl⟩ := cbE_zero h1
    rw [if_pos h1, h1, Int.toNat_natCast]
    exact rtamper h n hn o c f (hb.bv (by decide))
  · refine (rtamper_bad h m o l c h1).mono ?_
    rintro e w' ⟨rfl, rfl⟩
    rw [if_neg h1]
    exact ⟨rfl, R, rfl, h, Keeps.refl _ _⟩
theorem tS_pw (m : Int) (l : Nat) (f : Nat → BitVec 8) : (tS s m l f).pw = s.pw := by
  unfold tS
  split <;> rfl
/-- a crash -/
noncomputable def cE (s : DSt) (kb kw : Nat → Int) (k : Nat) : Int := open Classical in if okD s kb kw k then 0 else 1
noncomputable def cS (s : DSt) (kb kw : Nat → Int) (k : Nat) : DSt := open Classical in if okD s kb kw k then crS s kb kw k else s
noncomputable def cP (s : DSt) (kb kw : Nat → Int) (k : Nat) (stp : Bool) : Bool := open Classical in if okD s kb kw k then false else stp
theorem craD (h : DkM F p s C M W) (kv : Value) (k : Nat) (hk : KL kv k kb kw W) (hok : ∀ i, i < k → okI (kb i)) (hk9 : k ≤ 140737488355328) (hC : C ≤ 4398046511104) :
    Calls Try.prog 18 #[.pointer (some ⟨p, 0, none⟩), kv] W fun e w' => e = .returned (.int .i64 (cE s kb kw k)) ∧ ∃ M', DkM F p (cS s kb kw k) C M' w' ∧ Keeps F W w' := by
  unfold cE cS
  by_cases h1 : okD s kb kw k
  · rw [if_pos h1, if_pos h1]
    exact dcrash h kv k hk hok hk9 ((okK_iff s M kb kw k).2 h1) hC
  · rw [if_neg h1, if_neg h1]
    refine (dcrash_bad h kv k hk hok hk9 fun e => h1 ((okK_iff s M kb kw k).1 e)).mono ?_
    rintro e w' ⟨rfl, a1⟩
    exact ⟨rfl, M, h.ext a1, Keeps.of_ext a1⟩
theorem craR (h : RdM G x s stp cl R W) (o : Option Addr) (k c : Nat) (hk : KP (.slice o k c) k kb kw W) (hka : ∀ a, o = some a → 0 < k → ¬ G a.block) (hk9 : k ≤ 140737488355328) :
    Calls Try.prog 33 #[.pointer (some ⟨x, 0, none⟩), .slice o k c] W fun e w' => e = .returned (.int .i64 (cE s kb kw k)) ∧ ∃ R', R'.bb = R.bb ∧ RdM G x (cS s kb kw k) (cP s kb kw k stp) cl R' w' ∧ Keeps (fun i => i = x ∨ i = R.bb) W w' := by
  unfold cE cS cP
  have hKL : 0 < k → KL (.slice o k c) k kb kw W := fun h0 => by
    rcases hk with ⟨_, e⟩ | ⟨a, cap, e1, e2, e3⟩
    · omega
    · refine .inr ⟨a, cap, e1, e2, e3, ?_⟩
      have := World.block_lt_of_cell? W (a.add 0) (e3 0 (by omega))
      rwa [add_block] at this
  by_cases h1 : okD s kb kw k
  · rw [if_pos h1, if_pos h1, if_pos h1]
    refine (rcrashK h o k c (fun i hi => ?_) hk9 h1).mono ?_
    · rcases hKL (by omega) with ⟨_, e⟩ | ⟨a, cap, e1, _, e3⟩
      · omega
      · injection e1 with e1
        subst e1
        have hel := kl_at e3 i hi
        have e := hel.1 0 (by decide)
        rw [addZ] at e
        exact ⟨a, rfl, hka a rfl (by omega), e, hel.1 1 (by decide)⟩
    · rintro e w' ⟨rfl, R', a1, a2, a3⟩
      exact ⟨rfl, R', a1, a2.congr rfl (fun _ _ => rfl) (fun _ _ => rfl) (fun _ _ => rfl), a3⟩
  · rw [if_neg h1, if_neg h1, if_neg h1]
    have h0 : 0 < k := by
      rcases Nat.eq_zero_or_pos k with e | e
      · exact absurd (fun i hi => by omega) h1
      · exact e
    refine (rcrash_bad h _ k (hKL h0) hk9 h1).mono ?_
    rintro e w' ⟨rfl, a1⟩
    exact ⟨rfl, R, rfl, h.ext a1, Keeps.of_ext a1⟩
theorem cr_on (h : Tw F G p x s C M stp cl R W) (k : Nat) : cP s kb kw k stp = true → cl = (cS s kb kw k).pw ∧ 0 ≤ cl := by
  unfold cP cS
  by_cases e : okD s kb kw k
  · rw [if_pos e]
    intro h; cases h
  · rw [if_neg e, if_neg e]
    exact h.on
theorem cr_no (h : Tw F G p x s C M stp cl R W) (k : Nat) : cP s kb kw k stp = false → (cS s kb kw k).pw < 0 := by
  unfold cP cS
  by_cases e : okD s kb kw k
  · rw [if_pos e, if_pos e]
    intro _
    show (-1 : Int) < 0
    decide
  · rw [if_neg e, if_neg e]
    exact h.no
/-- power that ends -/
theorem st_on (h : Tw F G p x s C M stp cl R W) (n : Int) : (if offR stp cl then stp else decide (0 ≤ n)) = true → (if offR stp cl then cl else n) = stE s.pw n ∧ 0 ≤ (if offR stp cl then cl else n) := by
  have ho := h.off
  unfold stE
  by_cases e : s.pw = 0
  · rw [decide_eq_true e] at ho
    rw [← ho]
    simp only [if_true]
    intro hs
    have := h.on hs
    rw [if_pos e]
    omega
  · rw [decide_eq_false e] at ho
    rw [← ho]
    simp only [Bool.false_eq_true, if_false]
    intro hs
    rw [if_neg e]
    exact ⟨rfl, by simpa using hs⟩
theorem st_no (h : Tw F G p x s C M stp cl R W) (n : Int) : (if offR stp cl then stp else decide (0 ≤ n)) = false → stE s.pw n < 0 := by
  have ho := h.off
  unfold stE
  by_cases e : s.pw = 0
  · rw [decide_eq_true e] at ho
    rw [← ho]
    simp only [if_true]
    intro hs
    have := h.no hs
    omega
  · rw [decide_eq_false e] at ho
    rw [← ho]
    simp only [Bool.false_eq_true, if_false]
    intro hs
    rw [if_neg e]
    simpa using hs
end
end Go.Proofs.Ytfaeieaelfjlpaa
namespace Go.Proofs.Ytfaeieaelfjlpaa
open Go.RowKit Go.BigFrame Go.Maps
theorem elem31B : ElemB Try.prog 31 5 1 := elem_b Try.underlying31 (by kernel_rfl) (by kernel_rfl) (by kernel_rfl)
/-- bytes that came in, put behind an empty row -/
theorem run_full31 {b : Nat} {u : Value} {m : Nat} {f : Nat → BitVec 8} {w : World} (hU : PV u m f w) (hn : m ≤ 140737488355328) (g : Nat → Value) (base : Nat) (hO : OwnB base 5 (.slice (some ⟨b, 0, none⟩) 0 0) 0 g w) (hbs : base ≤ w.heap.size) (ty : TypeId) :
    ∃ v' w', (Builtin.append_ #[31, 31] ty #[.slice (some ⟨b, 0, none⟩) 0 0, u]).run Try.prog w = .ok v' w' ∧ OwnB base 5 v' m (yv f) w' ∧ Ext w w' := by
  obtain ⟨i, z, e1, e2, e3, e4, e5⟩ := elem31B.info
  have hN : m = 0 → OwnB base 5 (.slice (some ⟨b, 0, none⟩) 0 0) m (yv f) w := fun e => by subst e; exact hO.congr fun j hj => absurd hj (by omega)
  rcases hU with ⟨rfl, rfl⟩ | ⟨a, cap, rfl, hc, hcell⟩
  · exact ⟨_, w, run_append_owned_none (P := Try.prog) (w := w) base 31 ty 5 i 1 elem31B.slice e1 _ 0 (row 0 g) hO, hN rfl, Ext.refl _⟩
  · by_cases hm0 : m = 0
    · subst hm0
      exact ⟨_, w, run_append_room_cells (P := Try.prog) w 31 ty 5 i elem31B.slice e1 b 0 0 0 a 0 cap [] (by simp) (fun j u hj => by simp at hj) (fun u hu => by simp at hu) (by decide) (fun j hj => by simp at hj) (fun j hj => by simp at hj), hN rfl, Ext.refl _⟩
    · obtain ⟨v', w', a1, a2, a3⟩ := run_append_arg_grows (P := Try.prog) (w := w) 31 ty 5 i z 1 1 elem31B.slice e1 e2 e3 e4 e5 (by decide) ⟨b, 0, none⟩ 0 0 [] rfl (fun j u hj => by simp at hj) a m cap (row m (yv f)) (by rw [row_length, Nat.mul_one]) (fun j w0 hj => by
        obtain ⟨hj', rfl⟩ := row_some hj
        exact hcell j hj') (by omega) (by unfold maxLen; omega) (by omega)
      refine ⟨v', w', a1, ?_, ⟨a3.os, a3.tape, a3.output, a3.size, fun k hk => a3.block k hk (by simp)⟩⟩
      have a4 : OwnB w.heap.size 5 v' m (yv f) w' := by
        unfold OwnB
        rw [Nat.zero_add, List.nil_append] at a2
        exact a2
      exact a4.down hbs
/-- a list of what is kept that came in, put behind an empty row -/
theorem run_full32 {b : Nat} {q : Value} {k : Nat} {kb kw : Nat → Int} {w : World} (hU : KP q k kb kw w) (hn : k * 16 ≤ 140737488355328) (hb : b < w.heap.size) (hO : w.ownsRow 0 65 2 (.slice (some ⟨b, 0, none⟩) 0 0) 0 []) (ty : TypeId) :
    ∃ v' w', (Builtin.append_ #[32, 32] ty #[.slice (some ⟨b, 0, none⟩) 0 0, q]).run Try.prog w = .ok v' w' ∧ KL v' k kb kw w' ∧ Ext w w' := by
  obtain ⟨i, z, e1, e2, e3, e4, e5⟩ := elem32K.info
  have hN : k = 0 → KL (.slice (some ⟨b, 0, none⟩) 0 0) k kb kw w := fun e => .inr ⟨⟨b, 0, none⟩, 0, by rw [e], by omega, fun j hj => by omega, hb⟩
  rcases hU with ⟨rfl, rfl⟩ | ⟨a, cap, rfl, hc, hcell⟩
  · exact ⟨_, w, run_append_owned_none (P := Try.prog) (w := w) 0 32 ty 65 i 2 elem32K.slice e1 _ 0 [] hO, hN rfl, Ext.refl _⟩
  · by_cases hm0 : k = 0
    · subst hm0
      exact ⟨_, w, run_append_room_cells (P := Try.prog) w 32 ty 65 i elem32K.slice e1 b 0 0 0 a 0 cap [] (by simp) (fun j u hj => by simp at hj) (fun u hu => by simp at hu) (by decide) (fun j hj => by simp at hj) (fun j hj => by simp at hj), hN rfl, Ext.refl _⟩
    · obtain ⟨v', w', a1, a2, a3⟩ := run_append_arg_grows (P := Try.prog) (w := w) 32 ty 65 i z 2 16 elem32K.slice e1 e2 e3 e4 e5 (by decide) ⟨b, 0, none⟩ 0 0 [] rfl (fun j u hj => by simp at hj) a k cap (row (k * 2) (kpV kb kw)) (by rw [row_length]) (fun j w0 hj => by
        obtain ⟨hj', rfl⟩ := row_some hj
        exact hcell j hj') (by omega) (by unfold maxLen; omega) (by omega)
      refine ⟨v', w', a1, ?_, ⟨a3.os, a3.tape, a3.output, a3.size, fun k hk => a3.block k hk (by simp)⟩⟩
      rw [Nat.zero_add, List.nil_append] at a2
      have a20 := a2
      rcases a2.2 with ⟨_, h2⟩ | ⟨g, cp, cur, rfl, _, hg, hc, _⟩
      · omega
      · refine .inr ⟨⟨g, 0, none⟩, cp, rfl, hc, fun j hj => ?_, (Array.getElem?_eq_some_iff.1 hg).1⟩
        have := World.ownsRow.cells a20 (g := g) rfl j (kpV kb kw j) (row_get (k * 2) (kpV kb kw) j hj)
        simpa [Addr.add] using this
theorem BV.pv {v : Value} {l : Nat} {f : Nat → BitVec 8} {W : World} (h : BV v l f W) : PV v l f W := by
  rcases h with h | ⟨a, cap, h1, h2, h3⟩
  · exact .inl h
  · exact .inr ⟨a, cap, h1, h2, h3.1⟩
theorem PV.keep {K : Nat → Prop} {o : Option Addr} {l c : Nat} {f : Nat → BitVec 8} {X Y : World} (h : PV (.slice o l c) l f X) (k : Keeps K X Y) (hn : ∀ a, 0 < l → o = some a → ¬ K a.block) : PV (.slice o l c) l f Y := by
  rcases h with h | ⟨a, cap, h1, h2, h3⟩
  · exact .inl h
  · refine .inr ⟨a, cap, h1, h2, fun j hj => ?_⟩
    injection h1 with e1 _ _
    have hl := World.block_lt_of_cell? X (a.add j) (h3 j hj)
    rw [add_block] at hl
    exact (World.cell?_of_block (a := a.add j) (by rw [add_block]; exact k.block _ hl (hn a (by omega) e1))).trans (h3 j hj)
theorem KP.keep {K : Nat → Prop} {o : Option Addr} {l c : Nat} {kb kw : Nat → Int} {X Y : World} (h : KP (.slice o l c) l kb kw X) (k : Keeps K X Y) (hn : ∀ a, 0 < l → o = some a → ¬ K a.block) : KP (.slice o l c) l kb kw Y := by
  rcases h with h | ⟨a, cap, h1, h2, h3⟩
  · exact .inl h
  · refine .inr ⟨a, cap, h1, h2, fun j hj => ?_⟩
    injection h1 with e1 _ _
    have hl := World.block_lt_of_cell? X (a.add j) (h3 j hj)
    rw [add_block] at hl
    exact (World.cell?_of_block (a := a.add j) (by rw [add_block]; exact k.block _ hl (hn a (by omega) e1))).trans (h3 j hj)
theorem PV.lt {o : Option Addr} {l c : Nat} {f : Nat → BitVec 8} {X : World} (h : PV (.slice o l c) l f X) : ∀ a, 0 < l → o = some a → a.block < X.heap.size := fun a hl e => by
  rcases h with ⟨_, h⟩ | ⟨a', cap, h1, h2, h3⟩
  · omega
  · injection h1 with e1 _ _
    have hl := World.block_lt_of_cell? X (a'.add 0) (h3 0 hl)
    rw [add_block] at hl
    rw [e] at e1
    injection e1 with e1
    rw [e1]
    exact hl
theorem KP.lt {o : Option Addr} {l c : Nat} {kb kw : Nat → Int} {X : World} (h : KP (.slice o l c) l kb kw X) : ∀ a, 0 < l → o = some a → a.block < X.heap.size := fun a hl e => by
  rcases h with ⟨_, h⟩ | ⟨a', cap, h1, h2, h3⟩
  · omega
  · injection h1 with e1 _ _
    have hl := World.block_lt_of_cell? X (a'.add 0) (h3 0 (by omega))
    rw [add_block] at hl
    rw [e] at e1
    injection e1 with e1
    rw [e1]
    exact hl
/-- what a call of 'does' leaves -/
def DoP (F G : Nat → Prop) (p x : Nat) (s : DSt) (C : Nat) (W : World) (e : Ending) (Y : World) : Prop :=
  e = .returned (.bool true) ∧ ∃ F' G' s' M' stp' cl' R', s'.N = s.N ∧ Tw F' G' p x s' (C + 1) M' stp' cl' R' Y ∧ Stp F G F' G' W Y
theorem opRow (W : World) (k m : Int) (u : Value) (bad : Bool) (q : Value) : RowAt W.heap.size 5 (opc k m u bad q) (W.alloc (.cells #[.int .i64 k, .int .i64 m, u, .bool bad, q] 34)) :=
  RowAt.newOf W 5 _ 34 _ fun j hj => by rcases (by omega : j = 0 ∨ j = 1 ∨ j = 2 ∨ j = 3 ∨ j = 4) with rfl | rfl | rfl | rfl | rfl <;> rfl
end Go.Proofs.Ytfaeieaelfjlpaa
