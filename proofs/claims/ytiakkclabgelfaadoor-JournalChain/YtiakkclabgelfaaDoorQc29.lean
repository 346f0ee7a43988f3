/-
  A disk's Tamper. A disk's Flush.
-/
import Derived.Test.YtiakkclabgelfaaDoorQc28
import Derived.Test.YtiakkclabgelfaaDoorQc1
namespace Go.Proofs.YtiakkclabgelfaaDoor
set_option maxRecDepth 20000
open Go.RowKit Go.BigFrame Go.Maps
theorem exec_clear {P : Program} {o : Oper} {a : Act} {w w' : World} {t : TypeId} {m : Value} (sl : Operand) (ho : o.op = .call { callee := .builtin .clear, args := #[sl], argTypes := #[t] }) (hs : a.eval sl = m)
    (hr : (Builtin.clear_ #[t] o.type #[m]).run P w = .ok (.tuple #[]) w') : (execOp a.eval o).run P w = .ok (.value (.tuple #[])) w' := by
  simp [execOp, ho, resolve, invoke, builtin, hs, hr, Result.andThen]
theorem exec_range {P : Program} {o : Oper} {a : Act} {w w' : World} {t : TypeId} {m v : Value} (x : Operand) (ho : o.op = .range t x) (hx : a.eval x = m) (hr : (Instr.range t m).run P w = .ok v w') : (execOp a.eval o).run P w = .ok (.value v) w' := by
  simp [execOp, ho, hx, hr, Result.andThen]
theorem exec_next {P : Program} {o : Oper} {a : Act} {w w' : World} {m v : Value} (x : Operand) (ho : o.op = .next x false) (hx : a.eval x = m) (hr : (Instr.next m false o.type).run P w = .ok v w') : (execOp a.eval o).run P w = .ok (.value v) w' := by
  simp [execOp, ho, hx, hr, Result.andThen]
theorem exec_entry {P : Program} {o : Oper} {a : Act} {w w' : World} {m v : Value} (x : Operand) (ho : o.op = .entry x) (hx : a.eval x = m) (hr : (Instr.entry m).run P w = .ok v w') : (execOp a.eval o).run P w = .ok (.value v) w' := by
  simp [execOp, ho, hx, hr, Result.andThen]
section
variable {F : Nat → Prop} {p : Nat} {s : DSt} {C : Nat} {M : DM} {W : World}
theorem DkM.setS (h : DkM F p s C M W) (n : Nat) (hn : n < s.N) (v : Value) (f : Nat → BitVec 8) (hv : CB v f W) : DkM F p { s with S := upN s.S n f } C { M with sv := upN M.sv n v } (W.setCell ⟨M.sb, n, none⟩ v) ∧ Keeps F W (W.setCell ⟨M.sb, n, none⟩ v) := by
  have k := but_setCell W M.sb n v
  have hk : Keeps F W (W.setCell ⟨M.sb, n, none⟩ v) := but_keeps k h.fs
  refine ⟨h.turnS k (upN M.sv n v) (upN s.S n f) ((h.sure.set n v).congr fun j hj => rfl) (fun i hi => ?_) fun hb => h.nb _ h.fs hb.unset, hk⟩
  by_cases e : i = n
  · subst e
    rw [upN_same, upN_same]
    exact hv.keep hk h.nb
  · rw [upN_other _ e, upN_other _ e]
    exact (h.cont i hi).keep hk h.nb
end
end Go.Proofs.YtiakkclabgelfaaDoor
namespace Go.Proofs.YtiakkclabgelfaaDoor
set_option maxRecDepth 20000
open Go.RowKit Go.BigFrame Go.Maps
theorem range_notB {P : Program} {k : TypeId} {b r n cnt : Nat} {m : Int → Option Value} {left : Int → Bool} {w : World} (h : RangeAt P k b r n m left cnt w) : ¬ IsB r w := fun ⟨cur, fz, hb⟩ => by
  obtain ⟨D, lf, ⟨es, clock, since, seen, c0, _, _, _, _, hr, _⟩, _⟩ := h
  rw [hr] at hb
  cases hb
section
variable {F : Nat → Prop} {p : Nat} {s : DSt} {C : Nat} {M : DM} {W X : World}
theorem CB.eq {v : Value} {f g : Nat → BitVec 8} {W : World} (e : f = g) (h : CB v f W) : CB v g W := e ▸ h
theorem DkM.congrS (h : DkM F p s C M W) (T : Nat → Nat → BitVec 8) (hT : ∀ i, i < s.N → s.S i = T i) : DkM F p { s with S := T } C M W := { h with cont := fun i hi => CB.eq (hT i hi) (h.cont i hi) }
def flS (s : DSt) : DSt := { s with S := hasF s, kc := fun _ => 0, pw := spE s.pw }
structure RgM (F : Nat → Prop) (p : Nat) (s : DSt) (C : Nat) (M : DM) (W : World) (r : Nat) (g : Nat → Nat → BitVec 8) (T : Nat → Nat → BitVec 8) (sv : Nat → Value) (left : Int → Bool) (cnt : Nat) (X : World) : Prop where
  dk : DkM F p { s with S := T } C { M with sv := sv } X
  rg : RangeAt Tryd.prog 3 M.mb r C M.m left cnt X
  kp : Keeps F W X
  rn : W.heap.size ≤ r
  tS : ∀ i, i < s.N → T i = if left i then s.S i else g i
theorem RgM.ext {Y : World} {r cnt : Nat} {g T : Nat → Nat → BitVec 8} {sv : Nat → Value} {left : Int → Bool} (h : RgM F p s C M W r g T sv left cnt X) (k : Ext X Y) : RgM F p s C M W r g T sv left cnt Y :=
  ⟨h.dk.ext k, h.rg.kept (row := none) ⟨Below.os k, Below.tape k, Below.output k, Below.size k, fun i hi _ => Below.block k i hi⟩ (by simp) (by simp), h.kp.ext k, h.rn, h.tS⟩
theorem RgM.start {w1 : World} {cnt : Nat} {g : Nat → Nat → BitVec 8} (h : DkM F p s C M W) (hR : RangeAt Tryd.prog 3 M.mb W.heap.size C M.m (fun x => (M.m x).isSome) cnt w1) (hg : W.grownBy w1 none) (hgg : ∀ i, i < s.N → M.m i = none → s.S i = g i) : RgM F p s C M W W.heap.size g s.S M.sv (fun x => (M.m x).isSome) cnt w1 := by
  have hE : Ext W w1 := ⟨hg.os, hg.tape, hg.output, hg.size, fun i hi => hg.block i hi (by simp)⟩
  refine ⟨h.ext hE, hR, Keeps.of_ext hE, Nat.le_refl _, fun i hi => ?_⟩
  cases hm : M.m i with
  | none => rw [if_neg (by simp)]; exact hgg i hi hm
  | some v => rw [if_pos (by simp)]
theorem RgM.nexts {r cnt cnt' : Nat} {g T : Nat → Nat → BitVec 8} {sv : Nat → Value} {left left' : Int → Bool} {Y : World} (h : RgM F p s C M W r g T sv left cnt X) (hg : X.grownBy Y (some r)) (hR : RangeAt Tryd.prog 3 M.mb r C M.m left' cnt' Y) (hd : ∀ i, F i → i < W.heap.size) : DkM F p { s with S := T } C { M with sv := sv } Y ∧ Keeps F W Y := by
  have hne : ∀ i, F i → ¬ i = r := fun i hi e => by have := hd i hi; have := h.rn; omega
  exact ⟨h.dk.keep (G := fun i => i = r) (Keeps.of_grown hg fun b hb => .inl (by injection hb with hb; exact hb.symm)) hne fun i hi => by subst hi; exact range_notB h.rg, h.kp.trans (F' := fun i => i = r) (Keeps.of_grown hg fun b hb => .inl (by injection hb with hb; exact hb.symm)) fun i hi => .inr (by have := h.rn; omega)⟩
set_option maxRecDepth 20000 in
set_option maxHeartbeats 4000000 in
theorem dflush (h : DkM F p s C M W) (hp : s.pw ≠ 0) (hC : C ≤ 4398046511104) :
    Calls Tryd.prog 19 #[.pointer (some ⟨p, 0, none⟩)] W fun e w' => e = .returned (.int .i64 0) ∧ ∃ M', DkM F p (flS s) C M' w' ∧ Keeps F W w' := by
  have ko := doff h
  rw [decide_eq_false hp] at ko
  have ec := h.c1
  have hn4 := h.n4
  obtain ⟨w1, cnt0, hr1, hR1, hg1, hs1⟩ := h.mp.range (t := 62) Tryd.underlying3 Tryd.underlying62
  have hS := RgM.start (g := hasF s) h hR1 hg1 fun i hi hm => by
    rcases h.list i hi with ⟨_, h2⟩ | ⟨v, h2, _⟩
    · exact (if_pos h2).symm
    · rw [hm] at h2
      cases h2
  replace ko := hideit ko
  replace hS := hideit hS
  replace h := hideit h
  clear hp hR1 hg1 hs1
  go_enter Tryd.func19, Tryd.ntmps19
  go_upto_region 5 with (first | (go_at_call 37; refine ko.out.mono ?_; rintro e w9 ⟨rfl, hw9⟩; rw [hw9]; clear hw9))
  clear ko
  refine wp_region_lit ?_
  refine wpList_run rfl (.pointer (some ⟨p, 0, none⟩)) (by simp [go_sem]) ?_
  simp only [zp0, zp1, zp2, zp3]
  refine wpList_run rfl (.pointer (some ⟨p, 0, none⟩)) (by simp [go_sem]) ?_
  simp only [zp0, zp1, zp2, zp3]
  refine wpList_run rfl (.pointer (some ⟨p, 1, none⟩)) (by simp [go_sem]) ?_
  simp only [zp0, zp1, zp2, zp3]
  refine wpList_run rfl (.map (some M.mb)) (by simp [go_sem, ec]) ?_
  simp only [zp0, zp1, zp2, zp3]
  refine wpList_to rfl (.pointer (some ⟨W.heap.size, 0, none⟩)) w1 (exec_range (.tmp 12) rfl rfl hr1) ?_
  simp only [zp0, zp1, zp2, zp3]
  clear hr1
  go_wp2
  go_loopw [3] (fun _ X => ∃ T sv left cnt, RgM F p s C M W W.heap.size (hasF s) T sv left cnt X) (fun _ X => X.rangeLeft M.mb W.heap.size)
  case atStart => exact ⟨_, _, _, _, hS.out⟩
  case round =>
    obtain ⟨T, sv, left, cnt, hI⟩ := hrel
    have hFl := hideit h.out.lt
    rcases hI.rg.next Tryd.underlying3 0 with ⟨hdone, hrn⟩ | ⟨x, v, w2, cnt', hx, hlx, hmx, hrn, hR2, hcl, hg2, hs2, hen⟩
    · have hfin := hI.dk.congrS (hasF s) fun i hi => (hI.tS i hi).trans (if_neg (by rw [hdone _ (h.out.ok i hi)]; simp))
      have hkp := hideit hI.kp
      obtain ⟨w3, hr3, hm3, hg3, hs3⟩ := hfin.mp.wipe (t := 62) Tryd.underlying62 0
      have ec3 := hfin.c1
      have h3 := (hfin.turnM (C' := 0) hg3 (fun _ => none) (fun _ => 0) hm3 (fun x v hx hv => by cases hv) (fun n' hn' => .inl ⟨rfl, rfl⟩) (fun n' hn' => Nat.le_refl _) (map_notB hm3)).mono (C' := C) (Nat.zero_le _)
      have hk3 := hideit (hkp.out.trans (F := F) (but_keeps hg3 hfin.fm) fun i hi => .inl hi)
      have ksp := hideit (dspend h3)
      clear h3 hm3 hg3 hs3 hkp hfin hI hS
      go_upto_region 6 with (fail)
      refine wp_region_lit ?_
      refine wpList_to rfl (.tuple #[.bool false]) wr (exec_next (.tmp 13) rfl rfl hrn) ?_
      simp only [zp0, zp1, zp2, zp3]
      go_upto_region 9 with (fail)
      refine wp_region_lit ?_
      refine wpList_run rfl (.pointer (some ⟨p, 0, none⟩)) (by simp [go_sem]) ?_
      simp only [zp0, zp1, zp2, zp3]
      refine wpList_run rfl (.pointer (some ⟨p, 0, none⟩)) (by simp [go_sem]) ?_
      simp only [zp0, zp1, zp2, zp3]
      refine wpList_run rfl (.pointer (some ⟨p, 1, none⟩)) (by simp [go_sem]) ?_
      simp only [zp0, zp1, zp2, zp3]
      refine wpList_run rfl (.map (some M.mb)) (by simp [go_sem, ec3]) ?_
      simp only [zp0, zp1, zp2, zp3]
      refine wpList_to rfl (.tuple #[]) w3 (exec_clear (.tmp 30) rfl rfl hr3) ?_
      simp only [Act.put]
      go_wp2_with (go_at_call 39; refine ksp.out.mono ?_; rintro e w5 ⟨rfl, hd5, hk5⟩; replace hd5 := hideit hd5; replace hk5 := hideit hk5)
      go_ret
      exact ⟨rfl, _, hd5.out, hk3.out.trans hk5.out fun i hi => .inl hi⟩
    · obtain ⟨n, rfl, hn⟩ := h.out.keys x hx (by rw [hmx]; simp)
      obtain ⟨hd2, hk2⟩ := hI.nexts hg2 hR2 h.out.lt
      have hk0 : 0 < s.kc n ∧ OwnB 0 39 v (s.kc n) (M.us n) w2 := by
        rcases hd2.list n hn with ⟨h2, _⟩ | ⟨v', h2, h3, h4⟩
        · rw [show M.m n = none from h2] at hmx
          cases hmx
        · rw [show M.m n = some v' from h2] at hmx
          injection hmx with hmx
          subst hmx
          exact ⟨h3, h4⟩
      obtain ⟨hk, hO⟩ := hk0
      have hkC := h.out.kcC n hn
      obtain ⟨rb, rcap, rfl, -, hrc, -, hrow⟩ := hO.lies hk
      have hcw := hd2.writes n (s.kc n - 1) hn (by show s.kc n - 1 < s.kc n; omega)
      obtain ⟨b, cap, hv, hcap, hlie, hisb⟩ := hcw
      have hv' : M.us n (s.kc n - 1) = .slice (some ⟨b, 0, none⟩) 512 cap := hv
      have i0 : (0 : Int) ≤ (n : Int) := by omega
      have i1 : (n : Int) < (s.N : Int) := by omega
      have hD : Ext w2 w2.drew := (Ext.refl w2).draw
      have kla := dlast (s.kc n) rcap rb (M.us n) w2.drew hk (by omega) (hrow.carry hD) _ _ _ hv'
      replace kla := hideit kla
      have hcb : CB (.slice (some ⟨b, 0, none⟩) 512 cap) (s.uc n (s.kc n - 1)) w2 := ⟨b, cap, rfl, hcap, hlie, hisb⟩
      have hfg : s.uc n (s.kc n - 1) = hasF s n := (if_neg (by omega)).symm
      have hd3 := hd2.ext hD
      obtain ⟨hd4, hk4⟩ := hd3.setS n hn _ _ (hcb.ext hD)
      have hR3 : RangeAt Tryd.prog 3 M.mb W.heap.size C M.m (fun y => left y && !decide (y = (n : Int))) cnt' w2.drew := hR2.kept (row := none) ⟨rfl, rfl, rfl, Nat.le_refl _, fun _ _ _ => rfl⟩ (by simp) (by simp)
      have hR4 := hR3.kept (but_setCell w2.drew M.sb n (.slice (some ⟨b, 0, none⟩) 512 cap)) (by simpa using Ne.symm h.out.sm) (by
        have := h.out.lt _ h.out.fs
        simp
        omega)
      have hI4 : Hid (RgM F p s C M W W.heap.size (hasF s) (upN T n (s.uc n (s.kc n - 1))) (upN sv n (.slice (some ⟨b, 0, none⟩) 512 cap)) (fun y => left y && !decide (y = (n : Int))) cnt' (w2.drew.setCell ⟨M.sb, n, none⟩ (.slice (some ⟨b, 0, none⟩) 512 cap))) := by
        refine ⟨hd4, hR4, (hk2.ext hD).trans (F := F) hk4 fun i hi => .inl hi, hI.rn, fun i hi => ?_⟩
        by_cases e : i = n
        · subst e
          rw [upN_same, if_neg (by simp), hfg]
        · rw [upN_other _ e, hI.tS i hi]
          have : decide ((i : Int) = (n : Int)) = false := decide_eq_false fun e2 => e (by omega)
          simp only [this, Bool.not_false, Bool.and_true]
      have e4 := hd3.sure.1 n hn
      have z4 := hd3.sure.2.1 n hn
      have hst3 := hd3.st
      have hme := hideit hR4.left_eq
      have hme0 := hideit hI.rg.left_eq
      replace hcl := hideit hcl
      clear hI hd2 hk2 hO hrow hcb hfg hd3 hd4 hk4 hR3 hR4 hR2 hg2 hs2 hlx hmx hv hv' hlie hisb hS
      go_upto_region 6 with (fail)
      refine wp_region_lit ?_
      refine wpList_to rfl (.tuple #[.bool true, .int .i64 (n : Int), .slice (some ⟨rb, 0, none⟩) (s.kc n) rcap]) w2 (exec_next (.tmp 13) rfl rfl hrn) ?_
      simp only [zp0, zp1, zp2, zp3]
      go_upto_region 7 with (fail)
      refine wp_region_lit ?_
      refine wpList_run rfl (.tuple #[.int .i64 (n : Int), .slice (some ⟨rb, 0, none⟩) (s.kc n) rcap]) (exec_entry (.tmp 13) rfl rfl hen) ?_
      simp only [zp0, zp1, zp2, zp3]
      refine wpList_run rfl (.int .i64 (n : Int)) (by simp [go_sem]) ?_
      simp only [zp0, zp1, zp2, zp3]
      refine wpList_run rfl (.slice (some ⟨rb, 0, none⟩) (s.kc n) rcap) (by simp [go_sem]) ?_
      simp only [zp0, zp1, zp2, zp3]
      refine wpList_run rfl (.int .i64 (n : Int)) (by simp [go_sem]) ?_
      simp only [zp0, zp1, zp2, zp3]
      refine wpList_run rfl (.slice (some ⟨rb, 0, none⟩) (s.kc n) rcap) (by simp [go_sem]) ?_
      simp only [zp0, zp1, zp2, zp3]
      go_upto_region 8 with (fail)
      refine wp_region_lad (fun X => RowAt p 3 (dkV s.N M.sb M.cp M.mb s.pw) X) [(false, 0), (false, 1), (false, 2), (false, 3), (false, 4), (false, 5), (false, 7), (true, 6), (true, 8)] (by kernel_rfl) (by kernel_rfl) (by decide +kernel) (by decide +kernel) (by decide +kernel) (by decide +kernel) hst3 ?_
      refine wpX_f _ (.pointer (some ⟨p, 0, none⟩)) rfl rfl (fun X _ => by simp [go_sem]) ?_
      simp only [List.getElem_toArray, List.getElem_cons_zero, Act.put, List.setIfInBounds_toArray, List.set_cons_zero, List.set_cons_succ]
      refine wpX_f _ (.pointer (some ⟨p, 0, none⟩)) rfl rfl (fun X _ => by simp [go_sem]) ?_
      simp only [zp4, zp5, zp6, zp0, zp1, zp2, zp3]
      refine wpX_f _ (.pointer (some ⟨p, 0, none⟩)) rfl rfl (fun X _ => by simp [go_sem]) ?_
      simp only [zp4, zp5, zp6, zp0, zp1, zp2, zp3]
      refine wpX_f _ (.slice (some ⟨M.sb, 0, none⟩) s.N M.cp) rfl rfl (fun X hX => by have e := hX.1 0 (by decide); rw [show dkV s.N M.sb M.cp M.mb s.pw 0 = .slice (some ⟨M.sb, 0, none⟩) s.N M.cp from rfl] at e; simp [go_sem, e]) ?_
      simp only [zp4, zp5, zp6, zp0, zp1, zp2, zp3]
      refine wpX_f _ (.int .i64 (n : Int)) rfl rfl (fun X _ => by simp [go_sem]) ?_
      simp only [zp4, zp5, zp6, zp0, zp1, zp2, zp3]
      refine wpX_f _ (.slice (some ⟨rb, 0, none⟩) (s.kc n) rcap) rfl rfl (fun X _ => by simp [go_sem]) ?_
      simp only [zp4, zp5, zp6, zp0, zp1, zp2, zp3]
      refine wpX_f _ (.pointer (some ⟨M.sb, n, none⟩)) rfl rfl (fun X _ => by simp [go_sem, i1]) ?_
      simp only [zp4, zp5, zp6, zp0, zp1, zp2, zp3]
      refine wpX_call _ rfl rfl (by simp [go_sem]) (kla.out.mono ?_)
      rintro e w3 ⟨rfl, hw3⟩
      rw [hw3]
      refine ⟨_, rfl, fun X => RowAt p 3 (dkV s.N M.sb M.cp M.mb s.pw) X, fun X hX => hX, hst3, ?_⟩
      simp only [zp4, zp5, zp6, zp0, zp1, zp2, zp3]
      refine wpX_st _ (w2.drew.setCell ⟨M.sb, n, none⟩ (.slice (some ⟨b, 0, none⟩) 512 cap)) rfl rfl (by simp [go_sem, e4, z4]) (fun X => RowAt p 3 (dkV s.N M.sb M.cp M.mb s.pw) X) (fun X hX => hX) hI4.out.dk.st ?_
      simp only [List.getElem_toArray, List.getElem_cons_zero, List.getElem_cons_succ, Act.put]
      refine wpX_nil ?_
      clear e4 z4 hst3 hw3 kla hrn hen
      generalize w2.drew.setCell ⟨M.sb, n, none⟩ (.slice (some ⟨b, 0, none⟩) 512 cap) = w4 at *
      go_wp2
      exact ⟨⟨_, _, _, _, hI4.out⟩, by rw [hme.out, hme0.out]; exact hcl.out⟩
end
end Go.Proofs.YtiakkclabgelfaaDoor
