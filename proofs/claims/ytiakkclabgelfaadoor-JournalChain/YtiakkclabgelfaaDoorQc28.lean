/-
  A disk's Write. A disk's Write, walked.
-/
import Derived.Test.YtiakkclabgelfaaDoorQc27
import Derived.Test.YtiakkclabgelfaaDoorQc1
namespace Go.Proofs.YtiakkclabgelfaaDoor
set_option maxRecDepth 20000
open Go.RowKit Go.BigFrame Go.Maps
def upN {α : Type} (f : Nat → α) (n : Nat) (a : α) : Nat → α := fun i => if i = n then a else f i
theorem upN_same {α : Type} (f : Nat → α) (n : Nat) (a : α) : upN f n a n = a := if_pos rfl
theorem upN_other {α : Type} (f : Nat → α) {n i : Nat} (h : i ≠ n) (a : α) : upN f n a i = f i := if_neg h
theorem own_notB {base : Nat} {v : Value} {n : Nat} {g : Nat → Value} {W : World} {b : Nat} (h : OwnB base 39 v n g W) (hb : v.ownBlock = some b) : ¬ IsB b W := fun ⟨cur, fz, h1⟩ => by
  obtain ⟨_, ⟨rfl, _⟩ | ⟨g', cap, cur', rfl, _, h2, _⟩⟩ := h
  · cases hb
  · injection hb with hb
    subst hb
    have h2' : W.heap[g']? = some (.cells cur' 39 (0, 0)) := h2
    rw [h1] at h2'
    injection h2' with h2'
    injection h2' with _ h3
    exact absurd h3 (by decide)
section
variable {F : Nat → Prop} {p : Nat} {s : DSt} {C : Nat} {M : DM} {W Y : World}
def lsV (M : DM) (n : Nat) : Value := (M.m n).getD (.slice none 0 0)
theorem DkM.ls (h : DkM F p s C M W) {n : Nat} (hn : n < s.N) : OwnB 0 39 (lsV M n) (s.kc n) (M.us n) W := by
  unfold lsV
  rcases h.list n hn with ⟨h1, h2⟩ | ⟨v, h1, h2, h3⟩
  · rw [h1, h2]
    exact own_nil _ _ _ _
  · rw [h1]
    exact h3
theorem ls_some {n b : Nat} (hb : (lsV M n).ownBlock = some b) : M.m n = some (lsV M n) := by
  unfold lsV at hb ⊢
  cases hm : M.m n with
  | none => rw [hm] at hb; cases hb
  | some v => rfl
theorem DkM.wrote {n : Nat} {v u : Value} {us : Nat → Value} {f : Nat → BitVec 8} (h : DkM F p s C M W) (hn : n < s.N) (k : Keeps (fun i => i = M.mb ∨ some i = (lsV M n).ownBlock) W Y) (hm : MapAt Tryd.prog 3 M.mb (C + 1) (mset M.m n (some v)) Y) (hO : OwnB 0 39 v (s.kc n + 1) us Y)
    (hloc : v.ownBlock = (lsV M n).ownBlock ∨ ∃ b, v.ownBlock = some b ∧ W.heap.size ≤ b) (hus : ∀ j, j < s.kc n → us j = M.us n j) (hu : us (s.kc n) = u) (hcb : CB u f Y) :
    DkM (fun i => (F i ∧ some i ≠ (lsV M n).ownBlock) ∨ some i = v.ownBlock) p { s with kc := upN s.kc n (s.kc n + 1), uc := upN s.uc n (upN (s.uc n) (s.kc n) f) } (C + 1) { M with m := mset M.m n (some v), us := upN M.us n us } Y := by
  have hla : ∀ b, (lsV M n).ownBlock = some b → b ≠ p ∧ b ≠ M.sb ∧ b ≠ M.mb := fun b hb => h.la n _ b hn (ls_some hb) hb
  have hG : ∀ i, (i = M.mb ∨ some i = (lsV M n).ownBlock) → F i := fun i hi => by
    rcases hi with rfl | hi
    · exact h.fm
    · exact h.fl n _ i hn (ls_some hi.symm) hi.symm
  have hGb : ∀ i, (i = M.mb ∨ some i = (lsV M n).ownBlock) → ¬ IsB i W := fun i hi => h.nb i (hG i hi)
  have hvl : ∀ b, v.ownBlock = some b → b ≠ p ∧ b ≠ M.sb ∧ b ≠ M.mb := fun b hb => by
    rcases hloc with h1 | ⟨b', h1, h2⟩
    · exact hla b (h1 ▸ hb)
    · rw [hb] at h1
      injection h1 with h1
      subst h1
      exact ⟨fun e => by have := h.lt _ h.fp; omega, fun e => by have := h.lt _ h.fs; omega, fun e => by have := h.lt _ h.fm; omega⟩
  have hoth : ∀ n' v' b, n' < s.N → n' ≠ n → M.m n' = some v' → v'.ownBlock = some b → some b ≠ (lsV M n).ownBlock := fun n' v' b hn' hne hv' hb e => h.ll n n' _ v' b hn hn' (Ne.symm hne) (ls_some e.symm) hv' e.symm hb
  have hcast : ∀ {n' : Nat}, n' ≠ n → ((n' : Int)) ≠ (n : Int) := fun hne e => hne (by omega)
  exact {
    st := h.st.keep k fun e => by
      rcases e with e | e
      · exact h.pm e
      · exact (hla p e.symm).1 rfl
    n4 := h.n4
    pk := h.pk
    ncp := h.ncp
    sure := h.sure.keep k fun e => by
      rcases e with e | e
      · exact h.sm e
      · exact (hla M.sb e.symm).2.1 rfl
    mp := hm
    cont := fun i hi => (h.cont i hi).keep k hGb
    keys := fun x hx hxn => by
      by_cases e : x = (n : Int)
      · exact ⟨n, e, hn⟩
      · exact h.keys x hx (by
          have : mset M.m n (some v) x = M.m x := mset_other _ e _
          rw [← this]
          exact hxn)
    list := fun n' hn' => by
      by_cases e : n' = n
      · subst e
        refine .inr ⟨v, mset_same _ _ _, ?_, ?_⟩
        · show 0 < upN s.kc n' (s.kc n' + 1) n'
          rw [upN_same]
          omega
        · show OwnB 0 39 v (upN s.kc n' (s.kc n' + 1) n') (upN M.us n' us n') Y
          rw [upN_same, upN_same]
          exact hO
      · show (mset M.m n (some v) n' = none ∧ upN s.kc n (s.kc n + 1) n' = 0) ∨ ∃ v', mset M.m n (some v) n' = some v' ∧ 0 < upN s.kc n (s.kc n + 1) n' ∧ OwnB 0 39 v' (upN s.kc n (s.kc n + 1) n') (upN M.us n us n') Y
        rw [mset_other _ (hcast e), upN_other _ e, upN_other _ e]
        rcases h.list n' hn' with h1 | ⟨v', h1, h2, h3⟩
        · exact .inl h1
        · refine .inr ⟨v', h1, h2, h3.keep k fun b hb e2 => ?_⟩
          rcases e2 with e2 | e2
          · exact (h.la n' v' b hn' h1 hb).2.2 e2
          · exact hoth n' v' b hn' e h1 hb e2
    writes := fun n' j hn' hj => by
      by_cases e : n' = n
      · subst e
        show CB (upN M.us n' us n' j) (upN s.uc n' (upN (s.uc n') (s.kc n') f) n' j) Y
        have hj' : j < upN s.kc n' (s.kc n' + 1) n' := hj
        rw [upN_same] at hj'
        rw [upN_same, upN_same]
        by_cases e2 : j = s.kc n'
        · subst e2
          rw [upN_same, hu]
          exact hcb
        · rw [upN_other _ e2, hus j (by omega)]
          exact (h.writes n' j hn' (by omega)).keep k hGb
      · show CB (upN M.us n us n' j) (upN s.uc n (upN (s.uc n) (s.kc n) f) n' j) Y
        have hj' : j < upN s.kc n (s.kc n + 1) n' := hj
        rw [upN_other _ e] at hj'
        rw [upN_other _ e, upN_other _ e]
        exact (h.writes n' j hn' hj').keep k hGb
    kcC := fun n' hn' => by
      show upN s.kc n (s.kc n + 1) n' ≤ C + 1
      by_cases e : n' = n
      · subst e
        rw [upN_same]
        have := h.kcC n' hn'
        omega
      · rw [upN_other _ e]
        have := h.kcC n' hn'
        omega
    fp := .inl ⟨h.fp, fun e => (hla p e.symm).1 rfl⟩
    fs := .inl ⟨h.fs, fun e => (hla M.sb e.symm).2.1 rfl⟩
    fm := .inl ⟨h.fm, fun e => (hla M.mb e.symm).2.2 rfl⟩
    fl := fun n' v' b hn' hv' hb => by
      by_cases e : n' = n
      · subst e
        have hv'' : mset M.m n' (some v) n' = some v' := hv'
        rw [mset_same] at hv''
        injection hv'' with hv''
        subst hv''
        exact .inr hb.symm
      · have hv'' : mset M.m n (some v) n' = some v' := hv'
        rw [mset_other _ (hcast e)] at hv''
        exact .inl ⟨h.fl n' v' b hn' hv'' hb, hoth n' v' b hn' e hv'' hb⟩
    nb := fun i hi hb => by
      rcases hi with ⟨h1, h2⟩ | h1
      · by_cases e : i = M.mb
        · subst e
          exact map_notB hm hb
        · exact h.nb i h1 (hb.back k (h.lt i h1) fun e2 => by
            rcases e2 with e2 | e2
            · exact e e2
            · exact h2 e2)
      · exact own_notB hO h1.symm hb
    lt := fun i hi => by
      rcases hi with ⟨h1, h2⟩ | h1
      · exact Nat.lt_of_lt_of_le (h.lt i h1) k.size
      · exact (hO.lt i h1.symm).2
    ps := h.ps
    pm := h.pm
    sm := h.sm
    la := fun n' v' b hn' hv' hb => by
      by_cases e : n' = n
      · subst e
        have hv'' : mset M.m n' (some v) n' = some v' := hv'
        rw [mset_same] at hv''
        injection hv'' with hv''
        subst hv''
        exact hvl b hb
      · have hv'' : mset M.m n (some v) n' = some v' := hv'
        rw [mset_other _ (hcast e)] at hv''
        exact h.la n' v' b hn' hv'' hb
    ll := fun n1 n2 v1 v2 b hn1 hn2 hne hv1 hv2 hb1 hb2 => by
      have key : ∀ n' v' b, n' < s.N → n' ≠ n → M.m n' = some v' → v'.ownBlock = some b → v.ownBlock ≠ some b := fun n' v' b hn' e hv' hb hb2 => by
        rcases hloc with h1 | ⟨b', h1, h2⟩
        · exact hoth n' v' b hn' e hv' hb (by rw [← h1]; exact hb2.symm)
        · rw [hb2] at h1
          injection h1 with h1
          subst h1
          have := h.lt _ (h.fl n' v' b hn' hv' hb)
          omega
      by_cases e1 : n1 = n
      · subst e1
        have hv1' : mset M.m n1 (some v) n1 = some v1 := hv1
        rw [mset_same] at hv1'
        injection hv1' with hv1'
        subst hv1'
        have hv2' : mset M.m n1 (some v) n2 = some v2 := hv2
        rw [mset_other _ (hcast (Ne.symm hne))] at hv2'
        exact key n2 v2 b hn2 (Ne.symm hne) hv2' hb2 hb1
      · have hv1' : mset M.m n (some v) n1 = some v1 := hv1
        rw [mset_other _ (hcast e1)] at hv1'
        by_cases e2 : n2 = n
        · subst e2
          have hv2' : mset M.m n2 (some v) n2 = some v2 := hv2
          rw [mset_same] at hv2'
          injection hv2' with hv2'
          subst hv2'
          exact key n1 v1 b hn1 e1 hv1' hb1 hb2
        · have hv2' : mset M.m n (some v) n2 = some v2 := hv2
          rw [mset_other _ (hcast e2)] at hv2'
          exact h.ll n1 n2 v1 v2 b hn1 hn2 hne hv1' hv2' hb1 hb2 }
end
end Go.Proofs.YtiakkclabgelfaaDoor
namespace Go.Proofs.YtiakkclabgelfaaDoor
set_option maxRecDepth 20000
open Go.RowKit Go.BigFrame Go.Maps
section
variable {F : Nat → Prop} {p : Nat} {s : DSt} {C : Nat} {M : DM} {W : World}
theorem cbE_ok {N n : Nat} (hn : n < N) : cbE N (n : Int) 512 = 0 := by
  unfold cbE
  rw [inN_true hn]
  rfl
theorem elem54 : ElemB Tryd.prog 49 39 24 := elem_b Tryd.underlying49 (by kernel_rfl) (by kernel_rfl) (by kernel_rfl)
theorem run_grow54 {v : Value} {n : Nat} {g : Nat → Value} {w : World} (hO : OwnB 0 39 v n g w) (b : Nat) (u : Value) (hu : w.cell? ⟨b, 0, none⟩ = some u) (h1 : u.oneCell' = true) (hn : n ≤ 4398046511104) (ty : TypeId) :
    ∃ v' w', (Builtin.append_ #[49, 49] ty #[v, .slice (some ⟨b, 0, none⟩) 1 1]).run Tryd.prog w = .ok v' w' ∧ OwnB 0 39 v' (n + 1) (fun j => if j = n then u else g j) w' ∧ w.grownBy w' v.ownBlock ∧ (v'.ownBlock = v.ownBlock ∨ v'.ownBlock = some w.heap.size) := by
  obtain ⟨i, z, e1, e2, e3, e4, e5⟩ := elem54.info
  obtain ⟨v', w', a1, a2, a3, _, a5⟩ := run_append_own_at (P := Tryd.prog) w 0 49 ty 39 i z 1 24 elem54.slice e1 e2 e3 e4 e5 (by decide) v n (row n g) hO ⟨b, 0, none⟩ 1 1 [u] rfl (fun j x hj => by
    cases j with
    | zero => simp at hj; subst hj; exact hu
    | succ j => simp at hj) (fun x hx => by simp at hx; subst hx; exact h1) (by unfold maxLen; omega) (by omega) (Nat.zero_le _)
  refine ⟨v', w', a1, ?_, a3, a5⟩
  unfold OwnB
  rw [show row (n + 1) (fun j => if j = n then u else g j) = row n g ++ [u] from ?_]
  · exact a2
  · rw [← row_append n 1 g (fun _ => u) _ (fun j hj => by rw [if_neg (by omega)]) (fun j hj => by rw [if_pos (by omega)])]
    rfl
theorem Keeps.weak {F F' : Nat → Prop} {a b : World} (h : Keeps F a b) (hF : ∀ i, F i → F' i) : Keeps F' a b := ⟨h.os, h.tape, h.output, h.size, fun i hi hn => h.block i hi fun e => hn (hF i e)⟩
def wrS (s : DSt) (n : Nat) (f : Nat → BitVec 8) : DSt := { s with kc := upN s.kc n (s.kc n + 1), uc := upN s.uc n (upN (s.uc n) (s.kc n) f), pw := spE s.pw }
set_option maxRecDepth 20000 in
set_option maxHeartbeats 4000000 in
theorem dwrite (h : DkM F p s C M W) (n : Nat) (hn : n < s.N) (hp : s.pw ≠ 0) (o : Option Addr) (cap : Nat) (f : Nat → BitVec 8) (hb : BV (.slice o 512 cap) 512 f W) (hC : C ≤ 4398046511104) :
    Calls Tryd.prog 50 #[.pointer (some ⟨p, 0, none⟩), .int .i64 (n : Int), .slice o 512 cap] W fun e w' => e = .returned (.int .i64 0) ∧ ∃ F' M', DkM F' p (wrS s n f) (C + 1) M' w' ∧ Keeps F W w' ∧ ∀ i, F' i → F i ∨ W.heap.size ≤ i := by
  have kc := dcheckB h n o 512 cap
  rw [cbE_ok hn] at kc
  have ko := doff h
  rw [decide_eq_false hp] at ko
  have hkC := h.kcC n hn
  have hok := h.ok n hn
  obtain ⟨lo, lc, hls⟩ : ∃ lo lc, lsV M n = .slice lo (s.kc n) lc := by
    rcases (h.ls hn).2 with ⟨h1, h2⟩ | ⟨b, c, cur, h1, _⟩
    · exact ⟨none, 0, by rw [h1, h2]⟩
    · exact ⟨_, _, h1⟩
  replace kc := hideit kc
  replace ko := hideit ko
  replace hls := hideit hls
  replace h := hideit h
  replace hb := hideit hb
  clear hp
  go_enter Tryd.func50, Tryd.ntmps50
  go_upto_region 6 with (first | (go_at_call 71; refine kc.out.mono ?_; rintro e w9 ⟨rfl, hw9⟩; rw [hw9]; clear hw9) | (go_at_call 37; refine ko.out.mono ?_; rintro e w9 ⟨rfl, hw9⟩; rw [hw9]; clear hw9))
  clear kc ko
  have hD : Ext W W.drew := (Ext.refl W).draw
  have hst0 := (h.out.ext hD).st
  have hmp0 := (h.out.ext hD).mp
  have kcl := hideit (clone_any (.slice o 512 cap) 512 f W.drew (hb.out.ext hD) (by decide))
  refine wp_region_ladz (fun X => RowAt p 3 (dkV s.N M.sb M.cp M.mb s.pw) X ∧ MapAt Tryd.prog 3 M.mb C M.m X) [15] [(false, 0), (false, 1), (false, 2), (false, 3), (false, 4), (false, 5), (false, 6), (false, 7), (false, 8), (false, 9), (false, 10), (false, 11), (true, 12), (true, 13), (true, 14), (true, 15)] (by kernel_rfl) (by kernel_rfl) (by decide +kernel) (by decide +kernel) (by decide +kernel) (by decide +kernel) ⟨hst0, hmp0⟩ ?_
  refine wpZ_f _ (.pointer (some ⟨p, 0, none⟩)) rfl rfl (fun X _ => by simp [go_sem]) ?_
  simp only [List.getElem_toArray, List.getElem_cons_zero, Act.put, List.setIfInBounds_toArray, List.set_cons_zero, List.set_cons_succ]
  refine wpZ_f _ (.pointer (some ⟨p, 0, none⟩)) rfl rfl (fun X _ => by simp [go_sem]) ?_
  simp only [zp4, zp5, zp6, zp0, zp1, zp2, zp3]
  refine wpZ_f _ (.pointer (some ⟨p, 1, none⟩)) rfl rfl (fun X _ => by simp [go_sem]) ?_
  simp only [zp4, zp5, zp6, zp0, zp1, zp2, zp3]
  refine wpZ_f _ (.map (some M.mb)) rfl rfl (fun X hX => by have e := hX.1.1 1 (by decide); rw [show dkV s.N M.sb M.cp M.mb s.pw 1 = .map (some M.mb) from rfl] at e; simp [go_sem, e]) ?_
  simp only [zp4, zp5, zp6, zp0, zp1, zp2, zp3]
  refine wpZ_f _ (.int .i64 (n : Int)) rfl rfl (fun X _ => by simp [go_sem]) ?_
  simp only [zp4, zp5, zp6, zp0, zp1, zp2, zp3]
  refine wpZ_f _ (.pointer (some ⟨p, 0, none⟩)) rfl rfl (fun X _ => by simp [go_sem]) ?_
  simp only [zp4, zp5, zp6, zp0, zp1, zp2, zp3]
  refine wpZ_f _ (.pointer (some ⟨p, 0, none⟩)) rfl rfl (fun X _ => by simp [go_sem]) ?_
  simp only [zp4, zp5, zp6, zp0, zp1, zp2, zp3]
  refine wpZ_f _ (.pointer (some ⟨p, 1, none⟩)) rfl rfl (fun X _ => by simp [go_sem]) ?_
  simp only [zp4, zp5, zp6, zp0, zp1, zp2, zp3]
  refine wpZ_f _ (.map (some M.mb)) rfl rfl (fun X hX => by have e := hX.1.1 1 (by decide); rw [show dkV s.N M.sb M.cp M.mb s.pw 1 = .map (some M.mb) from rfl] at e; simp [go_sem, e]) ?_
  simp only [zp4, zp5, zp6, zp0, zp1, zp2, zp3]
  refine wpZ_f _ (.int .i64 (n : Int)) rfl rfl (fun X _ => by simp [go_sem]) ?_
  simp only [zp4, zp5, zp6, zp0, zp1, zp2, zp3]
  refine wpZ_f _ (.slice lo (s.kc n) lc) rfl rfl (fun X hX => by have e := hX.2.look (t := 62) Tryd.underlying3 Tryd.underlying62 (zero54 X) hok; rw [show (M.m n).getD (.slice none 0 0) = .slice lo (s.kc n) lc from hls.out] at e; simp [go_sem, e]) ?_
  simp only [zp4, zp5, zp6, zp0, zp1, zp2, zp3]
  refine wpZ_f _ (.slice o 512 cap) rfl rfl (fun X _ => by simp [go_sem]) ?_
  simp only [zp4, zp5, zp6, zp0, zp1, zp2, zp3]
  refine wpZ_call _ rfl rfl (by simp [go_sem]) (kcl.out.mono ?_)
  rintro e w1 ⟨v1, rfl, hO1, hX1⟩
  obtain ⟨o1, c1, rfl⟩ := hO1.bv.form
  refine ⟨_, rfl, fun X => RowAt p 3 (dkV s.N M.sb M.cp M.mb s.pw) X ∧ MapAt Tryd.prog 3 M.mb C M.m X, .inr fun X hX => hX, ⟨hst0.carry hX1, hmp0.same (Below.block hX1 _ hmp0.lt)⟩, ?_⟩
  simp only [zp4, zp5, zp6, zp0, zp1, zp2, zp3]
  have hE1 := Ext.trans hD hX1
  have hX2 : Ext w1 (w1.alloc (.cells #[.slice o1 512 c1] 39)) := (Below.refl _ _).alloc (Nat.le_refl _) _
  have hE2 := Ext.trans hE1 hX2
  have hcb := (hO1.ext hX2).cb
  refine wpZ_to _ (.slice (some ⟨w1.heap.size, 0, none⟩) 1 1) (w1.alloc (.cells #[.slice o1 512 c1] 39)) rfl rfl (by simp [go_sem]) (fun X => RowAt p 3 (dkV s.N M.sb M.cp M.mb s.pw) X ∧ MapAt Tryd.prog 3 M.mb C M.m X) (.inr fun X hX => hX) ⟨(h.out.ext hE2).st, (h.out.ext hE2).mp⟩ ?_
  simp only [zp4, zp5, zp6, zp0, zp1, zp2, zp3]
  have hOl := (h.out.ext hE2).ls hn
  have hcl : (w1.alloc (.cells #[.slice o1 512 c1] 39)).cell? ⟨w1.heap.size, 0, none⟩ = some (.slice o1 512 c1) := by rw [World.cell?_alloc_new]; rfl
  obtain ⟨v3, w3, hr3, hO3, hg3, hl3⟩ := run_grow54 hOl w1.heap.size (.slice o1 512 c1) hcl rfl (by omega) 49
  have hsz : W.heap.size ≤ w1.heap.size := Below.size hE1
  have hk3 : Keeps (fun i => some i = (lsV M n).ownBlock) W w3 := (Keeps.of_ext hE2).trans (F' := fun i => some i = (lsV M n).ownBlock) (Keeps.of_grown hg3 fun b hb => .inl hb.symm) fun i hi => .inl hi
  rw [hls.out] at hr3
  have hla : ∀ b, (lsV M n).ownBlock = some b → b ≠ p ∧ b ≠ M.sb ∧ b ≠ M.mb := fun b hb => h.out.la n _ b hn (ls_some hb) hb
  have hst3 := h.out.st.keep hk3 fun e => (hla p e.symm).1 rfl
  have hmp3 := h.out.mp.same (hk3.block _ h.out.mp.lt fun e => (hla M.mb e.symm).2.2 rfl)
  have hcb3 := hcb.keep (Keeps.of_grown (F := fun i => some i = (lsV M n).ownBlock) hg3 fun b hb => .inl hb.symm) fun i hi => own_notB hOl hi.symm
  generalize w1.alloc (.cells #[.slice o1 512 c1] 39) = w2 at *
  refine wpZ_to _ v3 w3 rfl rfl (exec_app (.tmp 27) (.tmp 30) rfl rfl rfl hr3) (fun X => RowAt p 3 (dkV s.N M.sb M.cp M.mb s.pw) X ∧ MapAt Tryd.prog 3 M.mb C M.m X) (.inr fun X hX => hX) ⟨hst3, hmp3⟩ ?_
  simp only [zp4, zp5, zp6, zp0, zp1, zp2, zp3]
  obtain ⟨w4, hr4, hm4, hg4, hs4⟩ := hmp3.put (t := 62) Tryd.underlying3 Tryd.underlying62 (by unfold maxLen; omega) hok v3
  have hk4 : Keeps (fun i => i = M.mb ∨ some i = (lsV M n).ownBlock) W w4 := ((hk3.weak fun i hi => .inr hi).trans (F' := fun i => i = M.mb ∨ some i = (lsV M n).ownBlock) (Keeps.of_grown hg4 fun b hb => .inl (.inl (by injection hb with hb; exact hb.symm))) fun i hi => .inl hi)
  have hO4 := hO3.kept hg4 (by
    cases hv : v3.ownBlock with
    | none => exact .inl rfl
    | some b =>
      refine .inr fun e => ?_
      injection e with e
      subst e
      rcases hl3 with hl | hl
      · exact (hla M.mb (hl ▸ hv)).2.2 rfl
      · rw [hv] at hl
        injection hl with hl
        have := h.out.lt _ h.out.fm
        have := Below.size hX2
        omega)
  have hcb4 := hcb3.keep (F := fun i => i = M.mb) (Keeps.of_grown hg4 fun b hb => .inl (by injection hb with hb; exact hb.symm)) fun i hi => by subst hi; exact map_notB hmp3
  have hfin := h.out.wrote hn hk4 hm4 hO4 (hl3.imp id fun hl => ⟨_, hl, by have := Below.size hX2; omega⟩) (fun j hj => if_neg (by omega)) (if_pos rfl) hcb4
  have hkF : Keeps F W w4 := ⟨hk4.os, hk4.tape, hk4.output, hk4.size, fun i hi hnF => hk4.block i hi fun e => hnF (by
    rcases e with rfl | e
    · exact h.out.fm
    · exact h.out.fl n _ i hn (ls_some e.symm) e.symm)⟩
  have hF' : ∀ i, ((F i ∧ some i ≠ (lsV M n).ownBlock) ∨ some i = v3.ownBlock) → F i ∨ W.heap.size ≤ i := fun i hi => by
    rcases hi with hi | hi
    · exact .inl hi.1
    · rcases hl3 with hl | hl
      · rw [hl] at hi
        exact .inl (h.out.fl n _ i hn (ls_some hi.symm) hi.symm)
      · rw [hl] at hi
        injection hi with hi
        have := Below.size hX2
        exact .inr (by omega)
  obtain ⟨F3, hF3⟩ : ∃ F3 : Nat → Prop, F3 = fun i => (F i ∧ some i ≠ (lsV M n).ownBlock) ∨ some i = v3.ownBlock := ⟨_, rfl⟩
  rw [← hF3] at hfin
  replace hF' : Hid (∀ i, F3 i → F i ∨ W.heap.size ≤ i) := by rw [hF3]; exact hF'
  have ksp := hideit (dspend hfin)
  refine wpZ_st _ w4 rfl rfl (exec_mput (.tmp 20) (.tmp 21) (.tmp 31) rfl rfl rfl rfl hr4) (fun _ => True) (.inl (by simp)) trivial ?_
  simp only [List.getElem_toArray, List.getElem_cons_zero, List.getElem_cons_succ, Act.put]
  refine wpZ_nil ?_
  replace hkF := hideit hkF
  clear hfin hF3 hcb4 hO4 hk4 hs4 hg4 hm4 hr4 hcb3 hmp3 hst3 hk3 hr3 hO3 hg3 hl3 hcl hOl hcb hE2 hX2 hE1 hX1 hO1 hst0 hmp0 kcl hD hla
  go_wp2_with (go_at_call 39; refine ksp.out.mono ?_; rintro e w5 ⟨rfl, hd5, hk5⟩; replace hd5 := hideit hd5; replace hk5 := hideit hk5)
  go_ret
  exact ⟨rfl, F3, _, hd5.out, hkF.out.trans hk5.out hF'.out, hF'.out⟩
end
end Go.Proofs.YtiakkclabgelfaaDoor
