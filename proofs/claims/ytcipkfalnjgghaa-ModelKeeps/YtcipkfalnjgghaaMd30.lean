/-
  What ModelKeeps asks of each call.
-/
import Derived.Test.YtcipkfalnjgghaaMd29
import Derived.Test.YtcipkfalnjgghaaMd17
namespace Go.Proofs.Ytcipkfalnjgghaa
open Go.RowKit Go.BigFrame Go.Maps
set_option linter.unusedVariables false
theorem wrL_mono (s s' : MSt) (hh : s'.h = s.h) (hS : ∀ x, (s.S x).isSome = true → (s'.S x).isSome = true) : (wrL s).length ≤ (wrL s').length := by
  unfold wrL
  rw [hh]
  simp only [List.length_map, ← List.countP_eq_length_filter]
  first
  | exact List.countP_mono_left fun x _ hx => hS _ hx
  | (simp only [List.countP_map]; exact List.countP_mono_left fun x _ hx => hS _ hx)
/-- behind a call that told c -/
structure Stp (s s' : MSt) (i : Nat) (c : Int) : Prop where
  ok : StOk s' (i + 2)
  no : c ≠ 0 → s' = s
  ct : c = 0 → s.r.ct.toNat ≤ s'.r.ct.toNat
  wr : c = 0 → (wrL s).length ≤ (wrL s').length
theorem Stp.refl {s : MSt} {i : Nat} (h : StOk s i) (c : Int) : Stp s s i c := ⟨h.up.up, fun _ => rfl, fun _ => Nat.le_refl _, fun _ => Nat.le_refl _⟩
theorem PB.pv {o : Option Addr} {l k : Nat} {w : World} (h : PB (.slice o l k) w) : ∃ b, PV (.slice o l k) l b w ∧ l ≤ maxLen := by
  obtain ⟨l', b, h1, h2⟩ := h
  have e : l' = l := by
    rcases h1 with ⟨h1, h3⟩ | ⟨a, cap, h1, _⟩
    · injection h1 with _ h1 _; omega
    · injection h1 with _ h1 _; exact h1.symm
  subst e
  exact ⟨b, h1, h2⟩
variable {F : Nat → Prop} {p C : Nat} {M : MLoc} {w : World}
theorem writeK (s : MSt) (hM : MdM F p s C M w) (i : Nat) (hS : StOk s i) (hi : i < 900) (n : Int) (o : Option Addr) (l k : Nat) (hV : PB (.slice o l k) w) (hok : okI n) (hC : C < maxLen) :
    Calls Try.prog 11 #[.pointer (some ⟨p, 0, none⟩), .int .i64 n, .slice o l k] w fun e w' => ∃ c s' M', e = .returned (.int .i64 c) ∧ Stp s s' i c ∧ MdM F p s' (C + 1) M' w' ∧ Keeps F w w' := by
  obtain ⟨f, hf, _⟩ := hV.pv
  obtain ⟨h, S, P, ep, r, op, sl⟩ := s
  obtain rfl : op = true := hS.op
  refine (write_openP h S P ep r sl hM n o l k f hf hok hC _ _ ⟨rfl, rfl⟩).mono fun e w' ⟨h1, h2, h3⟩ => ⟨_, _, M, h1, ?_, h2, h3⟩
  by_cases e0 : wrE ⟨h, S, P, ep, r, true, sl⟩ n l = 0
  · rw [if_pos e0]
    refine ⟨(hS.wr (by omega) n f).up, fun q => absurd e0 q, fun _ => ?_, fun _ => wrL_mono _ _ rfl fun x hx => ?_⟩
    · show r.ct.toNat ≤ (r.ct + 1#64).toNat
      have e9 := ct_add r.ct i hS.ct (by omega)
      omega
    · show (if x = n then some f else S x).isSome = true
      split
      · rfl
      · exact hx
  · rw [if_neg e0]
    exact Stp.refl hS _
theorem addK (s : MSt) (hM : MdM F p s C M w) (i : Nat) (hS : StOk s i) (hi : i < 900) (n : Int) (o : Option Addr) (l k : Nat) (hV : PB (.slice o l k) w) (hok : okI n) (hC : C < maxLen) :
    Calls Try.prog 13 #[.pointer (some ⟨p, 0, none⟩), .int .i64 n, .slice o l k] w fun e w' => ∃ c s' M', e = .returned (.int .i64 c) ∧ Stp s s' i c ∧ MdM F p s' (C + 1) M' w' ∧ Keeps F w w' := by
  obtain ⟨f, hf, _⟩ := hV.pv
  obtain ⟨h, S, P, ep, r, op, sl⟩ := s
  obtain rfl : op = true := hS.op
  refine (add_openP h S P ep r sl hM n o l k f hf hok hC _ _ ⟨rfl, rfl⟩).mono fun e w' ⟨h1, ⟨M', h2⟩, h3⟩ => ⟨_, _, M', h1, ?_, h2, h3⟩
  by_cases e0 : adE ⟨h, S, P, ep, r, true, sl⟩ n l = 0
  · rw [if_pos e0]
    refine ⟨(hS.ad (by omega) n l f).up, fun q => absurd e0 q, fun _ => ?_, fun _ => Nat.le_refl _⟩
    show r.ct.toNat ≤ (r.ct + 1#64).toNat
    have e9 := ct_add r.ct i hS.ct (by omega)
    omega
  · rw [if_neg e0]
    exact Stp.refl hS _
theorem revK (s : MSt) (hM : MdM F p s C M w) (i : Nat) (hS : StOk s i) (hi : i < 900) (n : Int) (hok : okI n) :
    Calls Try.prog 14 #[.pointer (some ⟨p, 0, none⟩), .int .i64 n] w fun e w' => ∃ c s' M', e = .returned (.int .i64 c) ∧ Stp s s' i c ∧ MdM F p s' (C + 1) M' w' ∧ Keeps F w w' := by
  obtain ⟨h, S, P, ep, r, op, sl⟩ := s
  obtain rfl : op = true := hS.op
  refine (rev_open h S P ep r sl hM n hok).mono fun e w' ⟨c, h1, s', h2, ⟨M', h3⟩, h4⟩ => ⟨c, s', M', h1, ?_, h3.mono (Nat.le_succ C), h4⟩
  rcases h2 with ⟨rfl, _, rfl⟩ | ⟨rfl, _, _, rfl⟩ | ⟨rfl, _, _, _, rfl⟩ | ⟨rfl, _, _, _, _, rfl⟩ | ⟨rfl, _, _, _, _, rfl⟩
  · exact Stp.refl hS _
  · exact Stp.refl hS _
  · exact Stp.refl hS _
  · exact Stp.refl hS _
  · refine ⟨(hS.rv (by omega) n).up, fun q => absurd rfl q, fun _ => ?_, fun _ => Nat.le_refl _⟩
    show r.ct.toNat ≤ (r.ct + 1#64).toNat
    have e9 := ct_add r.ct i hS.ct (by omega)
    omega
theorem startK (s : MSt) (hM : MdM F p s C M w) (i : Nat) (hS : StOk s i) (hi : i < 900) :
    Calls Try.prog 15 #[.pointer (some ⟨p, 0, none⟩)] w fun e w' => ∃ c s' M', e = .returned (.int .i64 c) ∧ Stp s s' i c ∧ MdM F p s' (C + 1) M' w' ∧ Keeps F w w' := by
  obtain ⟨h, S, P, ep, r, op, sl⟩ := s
  obtain rfl : op = true := hS.op
  refine (start_open h S P ep r sl hM).mono fun e w' ⟨c, h1, s', h2, h3, h4⟩ => ⟨c, s', M, h1, ?_, h3.mono (Nat.le_succ C), h4⟩
  rcases h2 with ⟨rfl, _, rfl⟩ | ⟨rfl, _, _, rfl⟩ | ⟨rfl, _, _, rfl⟩
  · exact Stp.refl hS _
  · exact Stp.refl hS _
  · refine ⟨(hS.st (by omega)).up, fun q => absurd rfl q, fun _ => ?_, fun _ => Nat.le_refl _⟩
    show r.ct.toNat ≤ (r.ct + 1#64).toNat
    have e9 := ct_add r.ct i hS.ct (by omega)
    omega
theorem stepK (s : MSt) (hM : MdM F p s C M w) (i : Nat) (hS : StOk s i) (hi : i < 900) :
    Calls Try.prog 6 #[.pointer (some ⟨p, 0, none⟩)] w fun e w' => ∃ d c s' M', e = .returned (.tuple #[.bool d, .int .i64 c]) ∧ Stp s s' i c ∧ MdM F p s' (C + 1) M' w' ∧ Keeps F w w' := by
  refine (step_open s hM hS.op hS.rt).mono fun e w' ⟨d, c, h1, s', h2, h3, h4⟩ => ⟨d, c, s', M, h1, ?_, h3.mono (Nat.le_succ C), h4⟩
  have e1 := ct_add s.r.ct i hS.ct (by omega)
  have e2 := ct_add (s.r.ct + 1#64) (i + 1) (by have := hS.ct; omega) (by omega)
  have hc := hS.ct
  rcases h2 with ⟨rfl, _, _, rfl⟩ | ⟨rfl, _, _, _, rfl⟩ | ⟨rfl, _, hrk, hlt, rfl⟩
  · exact Stp.refl hS _
  · exact ⟨⟨hS.op, ⟨hS.rt.1, Int.le_refl _, by have := hS.rt.1.1.2.1; show (0 : Int) ≤ s.h.se; omega, .inr rfl⟩, by show (s.r.ct + 1#64 + 1#64).toNat ≤ i + 2; omega⟩, fun q => absurd rfl q, fun _ => by show s.r.ct.toNat ≤ (s.r.ct + 1#64 + 1#64).toNat; omega, fun _ => Nat.le_refl _⟩
  · have hf := hS.rt.2.1
    have hf2 : s.r.fr ≤ nxT s.h s.r.fr ∨ 0 ≤ nxT s.h s.r.fr := by
      have a1 := hS.rt.1.1.2.1
      have a2 := hS.rt.1.1.2.2.2.2.1
      have a3 := hS.rt.2.2.1
      unfold nxT
      split <;> omega
    exact ⟨⟨hS.op, ⟨hS.rt.1, by show 0 ≤ nxT s.h s.r.fr; omega, nxT_le _ _, .inl rfl⟩, by show (s.r.ct + 1#64).toNat ≤ i + 2; omega⟩, fun q => absurd rfl q, fun _ => by show s.r.ct.toNat ≤ (s.r.ct + 1#64).toNat; omega, fun _ => Nat.le_refl _⟩
theorem same_infoS (s : MSt) (z1 z2 : Nat) (h1 : RowAt z1 s.h.sl.toNat (fun j => .bool (tkF s j)) w) (h2 : RowAt z2 s.h.sl.toNat (fun j => .bool (tkF s j)) w) (hk : okH s.h) :
    Calls Try.prog 9 #[.agg (row 29 (ifS s z1)).toArray, .agg (row 29 (ifS s z2)).toArray] w fun e w' => e = .returned (.bool true) ∧ Ext w w' :=
  same_info s.h s.sl s.ep (lfF s) s.r.ct (some ⟨z1, 0, none⟩) (some ⟨z2, 0, none⟩) s.h.sl.toNat s.h.sl.toNat s.h.sl.toNat (tkF s) w
    (.inr ⟨_, _, rfl, ⟨fun j hj => by rw [addr0]; exact h1.1 j hj, h1.2.2⟩⟩) (.inr ⟨_, _, rfl, ⟨fun j hj => by rw [addr0]; exact h2.1 j hj, h2.2.2⟩⟩) (by have := hk.1.2.2.1; omega)
theorem writtenL (s : MSt) (hM : MdM F p s C M w) : Calls Try.prog 17 #[.pointer (some ⟨p, 0, none⟩)] w fun e w' => ∃ o c, e = .returned (.slice o (wrL s).length c) ∧ LI (.slice o (wrL s).length c) (wrL s).length (fun j => (wrL s).getD j 0) w' ∧ Ext w w' := by
  refine (written_any s hM).mono fun e w' ⟨v, h1, h2, h3⟩ => ?_
  have hL := OwnB.li h2
  obtain ⟨o, c, rfl⟩ := hL.form
  exact ⟨o, c, h1, hL, h3⟩
theorem op_one9 {c : Int} {s' : MSt} (h : opE l0 s' 3 oneF c) : c = 0 ∧ StOk s' 0 := by
  obtain ⟨h1, rfl⟩ := op_one h
  exact ⟨h1, ⟨rfl, ⟨okH9, by decide, by decide, .inr rfl⟩, by decide⟩⟩
end Go.Proofs.Ytcipkfalnjgghaa
