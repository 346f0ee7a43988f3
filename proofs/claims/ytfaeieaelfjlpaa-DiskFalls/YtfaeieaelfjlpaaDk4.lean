/-
  A disk's Write.
-/
import Derived.Test.YtfaeieaelfjlpaaDk3
namespace Go.Proofs.Ytfaeieaelfjlpaa
open Go.RowKit Go.BigFrame Go.Maps
def upN {α : Type} (f : Nat → α) (n : Nat) (a : α) : Nat → α := fun i => if i = n then a else f i
theorem upN_same {α : Type} (f : Nat → α) (n : Nat) (a : α) : upN f n a n = a := if_pos rfl
theorem upN_other {α : Type} (f : Nat → α) {n i : Nat} (h : i ≠ n) (a : α) : upN f n a i = f i := if_neg h
/-- a row of slices is no block of bytes -/
theorem own_notB {base : Nat} {v : Value} {n : Nat} {g : Nat → Value} {W : World} {b : Nat} (h : OwnB base 31 v n g W) (hb : v.ownBlock = some b) : ¬ IsB b W := fun ⟨cur, fz, h1⟩ => by
  obtain ⟨_, ⟨rfl, _⟩ | ⟨g', cap, cur', rfl, _, h2, _⟩⟩ := h
  · cases hb
  · injection hb with hb
    subst hb
    have h2' : W.heap[g']? = some (.cells cur' 31 (0, 0)) := h2
    rw [h1] at h2'
    injection h2' with h2'
    injection h2' with _ h3
    exact absurd h3 (by decide)
section
variable {F : Nat → Prop} {p : Nat} {s : DSt} {C : Nat} {M : DM} {W Y : World}
/-- the slice of a block's unsure writes -/
def lsV (M : DM) (n : Nat) : Value := (M.m n).getD (.slice none 0 0)
theorem DkM.ls (h : DkM F p s C M W) {n : Nat} (hn : n < s.N) : OwnB 0 31 (lsV M n) (s.kc n) (M.us n) W := by
  unfold lsV
  rcases h.list n hn with ⟨h1, h2⟩ | ⟨v, h1, h2, h3⟩
  · rw [h1, h2]
    exact own_nil _ _ _ _
  · rw [h1]
    exact h3
theorem ls_some {n b : Nat} (hb : (lsV M n).ownBlock = some b) : M.m n = some (lsV M n) := by
  unfold lsV at hb ⊢
  cases hm : M.m n with
  | none => rw [hm] at hb; cases hb
  | some v => rfl
/-- another write stands behind those of block n -/
theorem DkM.wrote {n : Nat} {v u : Value} {us : Nat → Value} {f : Nat → BitVec 8} (h : DkM F p s C M W) (hn : n < s.N) (k : Keeps (fun i => i = M.mb ∨ some i = (lsV M n).ownBlock) W Y) (hm : MapAt Try.prog 3 M.mb (C + 1) (mset M.m n (some v)) Y) (hO : OwnB 0 31 v (s.kc n + 1) us Y)
    (hloc : v.ownBlock = (lsV M n).ownBlock ∨ ∃ b, v.ownBlock = some b ∧ W.heap.size ≤ b) (hus : ∀ j, j < s.kc n → us j = M.us n j) (hu : us (s.kc n) = u) (hcb : CB u f Y) :
    DkM (fun i => (F i ∧ some i ≠ (lsV M n).ownBlock) ∨ some i = v.ownBlock) p { s with kc := upN s.kc n (s.kc n + 1), uc := upN s.uc n (upN (s.uc n) (s.kc n) f) } (C + 1) { M with m := mset M.m n (some v), us := upN M.us n us } Y := by
  have hla : ∀ b, (lsV M n).ownBlock = some b → b ≠ p ∧ b ≠ M.sb ∧ b ≠ M.mb := fun b hb => h.la n _ b hn (ls_some hb) hb
  have hG : ∀ i, (i = M.mb ∨ some i = (lsV M n).ownBlock) → F i := fun i hi => by
    rcases hi with rfl | hi
    · exact h.fm
    · exact h.fl n _ i hn (ls_some hi.symm) hi.symm
  have hGb : ∀ i, (i = M.mb ∨ some i = (lsV M n).ownBlock) → ¬ IsB i W := fun i hi => h.nb i (hG i hi)
  have hvl : ∀ b, v.ownBlock = some b → b ≠ p ∧ b ≠ M.sb ∧ b ≠ M.mb := fun b hb => by
    rcases hloc with h1 | ⟨b', h1, h2⟩
    · exact hla b (h1 ▸ hb)
    · rw [hb] at h1
      injection h1 with h1
      subst h1
      exact ⟨fun e => by have := h.lt _ h.fp; omega, fun e => by have := h.lt _ h.fs; omega, fun e => by have := h.lt _ h.fm; omega⟩
  have hoth : ∀ n' v' b, n' < s.N → n' ≠ n → M.m n' = some v' → v'.ownBlock = some b → some b ≠ (lsV M n).ownBlock := fun n' v' b hn' hne hv' hb e => h.ll n n' _ v' b hn hn' (Ne.symm hne) (ls_some e.symm) hv' e.symm hb
  have hcast : ∀ {n' : Nat}, n' ≠ n → ((n' : Int)) ≠ (n : Int) := fun hne e => hne (by omega)
  exact {
    st := h.st.keep k fun e => by
      rcases e with e | e
      · exact h.pm e
      · exact (hla p e.symm).1 rfl
    n4 := h.n4
    pk := h.pk
    ncp := h.ncp
    sure := h.sure.keep k fun e => by
      rcases e with e | e
      · exact h.sm e
      · exact (hla M.sb e.symm).2.1 rfl
    mp := hm
    cont := fun i hi => (h.cont i hi).keep k hGb
    keys := fun x hx hxn => by
      by_cases e : x = (n : Int)
      · exact ⟨n, e, hn⟩
      · exact h.keys x hx (by
          have : mset M.m n (some v) x = M.m x := mset_other _ e _
          rw [← this]
          exact hxn)
    list := fun n' hn' => by
      by_cases e : n' = n
      · subst e
        refine .inr ⟨v, mset_same _ _ _, ?_, ?_⟩
        · show 0 < upN s.kc n' (s.kc n' + 1) n'
          rw [upN_same]
          omega
        · show OwnB 0 31 v (upN s.kc n' (s.kc n' + 1) n') (upN M.us n' us n') Y
          rw [upN_same, upN_same]
          exact hO
      · show (mset M.m n (some v) n' = none ∧ upN s.kc n (s.kc n + 1) n' = 0) ∨ ∃ v', mset M.m n (some v) n' = some v' ∧ 0 < upN s.kc n (s.kc n + 1) n' ∧ OwnB 0 31 v' (upN s.kc n (s.kc n + 1) n') (upN M.us n us n') Y
        rw [mset_other _ (hcast e), upN_other _ e, upN_other _ e]
        rcases h.list n' hn' with h1 | ⟨v', h1, h2, h3⟩
        · exact .inl h1
        · refine .inr ⟨v', h1, h2, h3.keep k fun b hb e2 => ?_⟩
          rcases e2 with e2 | e2
          · exact (h.la n' v' b hn' h1 hb).2.2 e2
          · exact hoth n' v' b hn' e h1 hb e2
    writes := fun n' j hn' hj => by
      by_cases e : n' = n
      · subst e
        show CB (upN M.us n' us n' j) (upN s.uc n' (upN (s.uc n') (s.kc n') f) n' j) Y
        have hj' : j < upN s.kc n' (s.kc n' + 1) n' := hj
        rw [upN_same] at hj'
        rw [upN_same, upN_same]
        by_cases e2 : j = s.kc n'
        · subst e2
          rw [upN_same, hu]
          exact hcb
        · rw [upN_other _ e2, hus j (by omega)]
          exact (h.writes n' j hn' (by omega)).keep k hGb
      · show CB (upN M.us n us n' j) (upN s.uc n (upN (s.uc n) (s.kc n) f) n' j) Y
        have hj' : j < upN s.kc n (s.kc n + 1) n' := hj
        rw [upN_other _ e] at hj'
        rw [upN_other _ e, upN_other _ e]
        exact (h.writes n' j hn' hj').keep k hGb
    kcC := fun n' hn' => by
      show upN s.kc n (s.kc n + 1) n' ≤ C + 1
      by_cases e : n' = n
      · subst e
        rw [upN_same]
        have := h.kcC n' hn'
        omega
      · rw [upN_other _ e]
        have := h.kcC n' hn'
        omega
    fp := .inl ⟨h.fp, fun e => (hla p e.symm).1 rfl⟩
    fs := .inl ⟨h.fs, fun e => (hla M.sb e.symm).2.1 rfl⟩
    fm := .inl ⟨h.fm, fun e => (hla M.mb e.symm).2.2 rfl⟩
    fl := fun n' v' b hn' hv' hb => by
      by_cases e : n' = n
      · subst e
        have hv'' : mset M.m n' (some v) n' = some v' := hv'
        rw [mset_same] at hv''
        injection hv'' with hv''
        subst hv''
        exact .inr hb.symm
      · have hv'' : mset M.m n (some v) n' = some v' := hv'
        rw [mset_other _ (hcast e)] at hv''
        exact .inl ⟨h.fl n' v' b hn' hv'' hb, hoth n' v' b hn' e hv'' hb⟩
    nb := fun i hi hb => by
      rcases hi with ⟨h1, h2⟩ | h1
      · by_cases e : i = M.mb
        · subst e
          exact map_notB hm hb
        · exact h.nb i h1 (hb.back k (h.lt i h1) fun e2 => by
            rcases e2 with e2 | e2
            · exact e e2
            · exact h2 e2)
      · exact own_notB hO h1.symm hb
    lt := fun i hi => by
      rcases hi with ⟨h1, h2⟩ | h1
      · exact Nat.lt_of_lt_of_le (h.lt i h1) k.size
      · exact (hO.lt i h1.symm).2
    ps := h.ps
    pm := h.pm
    sm := h.sm
    la := fun n' v' b hn' hv' hb => by
      by_cases e : n' = n
      · subst e
        have hv'' : mset M.m n' (some v) n' = some v' := hv'
        rw [mset_same] at hv''
        injection hv'' with hv''
        subst hv''
        exact hvl b hb
      · have hv'' : mset M.m n (some v) n' = some v' := hv'
        rw [mset_other _ (hcast e)] at hv''
        exact h.la n' v' b hn' hv'' hb
    ll := fun n1 n2 v1 v2 b hn1 hn2 hne hv1 hv2 hb1 hb2 => by
      have key : ∀ n' v' b, n' < s.N → n' ≠ n → M.m n' = some v' → v'.ownBlock = some b → v.ownBlock ≠ some b := fun n' v' b hn' e hv' hb hb2 => by
        rcases hloc with h1 | ⟨b', h1, h2⟩
        · exact hoth n' v' b hn' e hv' hb (by rw [← h1]; exact hb2.symm)
        · rw [hb2] at h1
          injection h1 with h1
          subst h1
          have := h.lt _ (h.fl n' v' b hn' hv' hb)
          omega
      by_cases e1 : n1 = n
      · subst e1
        have hv1' : mset M.m n1 (some v) n1 = some v1 := hv1
        rw [mset_same] at hv1'
        injection hv1' with hv1'
        subst hv1'
        have hv2' : mset M.m n1 (some v) n2 = some v2 := hv2
        rw [mset_other _ (hcast (Ne.symm hne))] at hv2'
        exact key n2 v2 b hn2 (Ne.symm hne) hv2' hb2 hb1
      · have hv1' : mset M.m n (some v) n1 = some v1 := hv1
        rw [mset_other _ (hcast e1)] at hv1'
        by_cases e2 : n2 = n
        · subst e2
          have hv2' : mset M.m n2 (some v) n2 = some v2 := hv2
          rw [mset_same] at hv2'
          injection hv2' with hv2'
          subst hv2'
          exact key n1 v1 b hn1 e1 hv1' hb1 hb2
        · have hv2' : mset M.m n (some v) n2 = some v2 := hv2
          rw [mset_other _ (hcast e2)] at hv2'
          exact h.ll n1 n2 v1 v2 b hn1 hn2 hne hv1' hv2' hb1 hb2 }
end
end Go.Proofs.Ytfaeieaelfjlpaa
