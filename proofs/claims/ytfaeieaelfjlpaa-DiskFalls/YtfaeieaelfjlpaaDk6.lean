/-
  A disk's Tamper.
-/
import Derived.Test.YtfaeieaelfjlpaaDk5
namespace Go.Proofs.Ytfaeieaelfjlpaa
open Go.RowKit Go.BigFrame Go.Maps
theorem exec_del {P : Program} {o : Oper} {a : Act} {w w' : World} {t k : TypeId} {m x : Value} (sl y : Operand) (ho : o.op = .call { callee := .builtin .delete, args := #[sl, y], argTypes := #[t, k] }) (hs : a.eval sl = m) (hx : a.eval y = x)
    (hr : (Builtin.delete_ #[t, k] o.type #[m, x]).run P w = .ok (.tuple #[]) w') : (execOp a.eval o).run P w = .ok (.value (.tuple #[])) w' := by
  simp [execOp, ho, resolve, invoke, builtin, hs, hx, hr, Result.andThen]
theorem exec_clear {P : Program} {o : Oper} {a : Act} {w w' : World} {t : TypeId} {m : Value} (sl : Operand) (ho : o.op = .call { callee := .builtin .clear, args := #[sl], argTypes := #[t] }) (hs : a.eval sl = m)
    (hr : (Builtin.clear_ #[t] o.type #[m]).run P w = .ok (.tuple #[]) w') : (execOp a.eval o).run P w = .ok (.value (.tuple #[])) w' := by
  simp [execOp, ho, resolve, invoke, builtin, hs, hr, Result.andThen]
theorem exec_range {P : Program} {o : Oper} {a : Act} {w w' : World} {t : TypeId} {m v : Value} (x : Operand) (ho : o.op = .range t x) (hx : a.eval x = m) (hr : (Instr.range t m).run P w = .ok v w') : (execOp a.eval o).run P w = .ok (.value v) w' := by
  simp [execOp, ho, hx, hr, Result.andThen]
theorem exec_next {P : Program} {o : Oper} {a : Act} {w w' : World} {m v : Value} (x : Operand) (ho : o.op = .next x false) (hx : a.eval x = m) (hr : (Instr.next m false o.type).run P w = .ok v w') : (execOp a.eval o).run P w = .ok (.value v) w' := by
  simp [execOp, ho, hx, hr, Result.andThen]
theorem exec_entry {P : Program} {o : Oper} {a : Act} {w w' : World} {m v : Value} (x : Operand) (ho : o.op = .entry x) (hx : a.eval x = m) (hr : (Instr.entry m).run P w = .ok v w') : (execOp a.eval o).run P w = .ok (.value v) w' := by
  simp [execOp, ho, hx, hr, Result.andThen]
section
variable {F : Nat → Prop} {p : Nat} {s : DSt} {C : Nat} {M : DM} {W : World}
theorem dtamper_bad (h : DkM F p s C M W) (x : Int) (o : Option Addr) (l cap : Nat) (hx : cbE s.N x l ≠ 0) : Calls Try.prog 21 #[.pointer (some ⟨p, 0, none⟩), .int .i64 x, .slice o l cap] W fun e w' => e = .returned (.int .i64 (cbE s.N x l)) ∧ w' = W := by
  have kc := dcheckB h x o l cap
  obtain ⟨z, hz⟩ : ∃ z, z = cbE s.N x l := ⟨_, rfl⟩
  rw [← hz] at kc hx ⊢
  replace kc := hideit kc
  clear h hz
  go_enter Try.func21, Try.ntmps21
  go_wp2_with (go_at_call 26; refine kc.out.mono ?_; rintro e w9 ⟨rfl, hw9⟩; rw [hw9]; clear hw9)
  go_ret
  exact ⟨rfl, rfl⟩
def taS (s : DSt) (n : Nat) (f : Nat → BitVec 8) : DSt := { s with S := upN s.S n f, kc := upN s.kc n 0 }
/-- one block's sure bytes turned -/
theorem DkM.setS (h : DkM F p s C M W) (n : Nat) (hn : n < s.N) (v : Value) (f : Nat → BitVec 8) (hv : CB v f W) : DkM F p { s with S := upN s.S n f } C { M with sv := upN M.sv n v } (W.setCell ⟨M.sb, n, none⟩ v) ∧ Keeps F W (W.setCell ⟨M.sb, n, none⟩ v) := by
  have k := but_setCell W M.sb n v
  have hk : Keeps F W (W.setCell ⟨M.sb, n, none⟩ v) := but_keeps k h.fs
  refine ⟨h.turnS k (upN M.sv n v) (upN s.S n f) ((h.sure.set n v).congr fun j hj => rfl) (fun i hi => ?_) fun hb => h.nb _ h.fs hb.unset, hk⟩
  by_cases e : i = n
  · subst e
    rw [upN_same, upN_same]
    exact hv.keep hk h.nb
  · rw [upN_other _ e, upN_other _ e]
    exact (h.cont i hi).keep hk h.nb
set_option maxRecDepth 20000 in
set_option maxHeartbeats 4000000 in
theorem dtamper (h : DkM F p s C M W) (n : Nat) (hn : n < s.N) (o : Option Addr) (cap : Nat) (f : Nat → BitVec 8) (hb : BV (.slice o 512 cap) 512 f W) :
    Calls Try.prog 21 #[.pointer (some ⟨p, 0, none⟩), .int .i64 (n : Int), .slice o 512 cap] W fun e w' => e = .returned (.int .i64 0) ∧ ∃ M', DkM F p (taS s n f) C M' w' ∧ Keeps F W w' := by
  have kc := dcheckB h n o 512 cap
  rw [cbE_ok hn] at kc
  have hok := h.ok n hn
  have hn4 := h.n4
  have i0 : (0 : Int) ≤ (n : Int) := by omega
  have i1 : (n : Int) < (s.N : Int) := by omega
  replace kc := hideit kc
  replace h := hideit h
  replace hb := hideit hb
  go_enter Try.func21, Try.ntmps21
  go_upto_region 4 with (first | (go_at_call 26; refine kc.out.mono ?_; rintro e w9 ⟨rfl, hw9⟩; rw [hw9]; clear hw9))
  clear kc
  have hD : Ext W W.drew := (Ext.refl W).draw
  have hst0 := (h.out.ext hD).st
  have kcl := hideit (clone_any (.slice o 512 cap) 512 f W.drew (hb.out.ext hD) (by decide))
  refine wp_region_lad (fun X => RowAt p 3 (dkV s.N M.sb M.cp M.mb s.pw) X) [(false, 0), (false, 1), (false, 2), (false, 3), (false, 4), (false, 5), (false, 7), (true, 6), (true, 8)] (by kernel_rfl) (by kernel_rfl) (by decide +kernel) (by decide +kernel) (by decide +kernel) (by decide +kernel) hst0 ?_
  refine wpX_f _ (.pointer (some ⟨p, 0, none⟩)) rfl rfl (fun X _ => by simp [go_sem]) ?_
  simp only [List.getElem_toArray, List.getElem_cons_zero, Act.put, List.setIfInBounds_toArray, List.set_cons_zero, List.set_cons_succ]
  refine wpX_f _ (.pointer (some ⟨p, 0, none⟩)) rfl rfl (fun X _ => by simp [go_sem]) ?_
  simp only [List.getElem_toArray, List.getElem_cons_zero, List.getElem_cons_succ, Act.put, List.setIfInBounds_toArray, List.set_cons_zero, List.set_cons_succ]
  refine wpX_f _ (.pointer (some ⟨p, 0, none⟩)) rfl rfl (fun X _ => by simp [go_sem]) ?_
  simp only [List.getElem_toArray, List.getElem_cons_zero, List.getElem_cons_succ, Act.put, List.setIfInBounds_toArray, List.set_cons_zero, List.set_cons_succ]
  refine wpX_f _ (.slice (some ⟨M.sb, 0, none⟩) s.N M.cp) rfl rfl (fun X hX => by have e := hX.1 0 (by decide); rw [show dkV s.N M.sb M.cp M.mb s.pw 0 = .slice (some ⟨M.sb, 0, none⟩) s.N M.cp from rfl] at e; simp [go_sem, e]) ?_
  simp only [List.getElem_toArray, List.getElem_cons_zero, List.getElem_cons_succ, Act.put, List.setIfInBounds_toArray, List.set_cons_zero, List.set_cons_succ]
  refine wpX_f _ (.int .i64 (n : Int)) rfl rfl (fun X _ => by simp [go_sem]) ?_
  simp only [List.getElem_toArray, List.getElem_cons_zero, List.getElem_cons_succ, Act.put, List.setIfInBounds_toArray, List.set_cons_zero, List.set_cons_succ]
  refine wpX_f _ (.slice o 512 cap) rfl rfl (fun X _ => by simp [go_sem]) ?_
  simp only [List.getElem_toArray, List.getElem_cons_zero, List.getElem_cons_succ, Act.put, List.setIfInBounds_toArray, List.set_cons_zero, List.set_cons_succ]
  refine wpX_f _ (.pointer (some ⟨M.sb, n, none⟩)) rfl rfl (fun X _ => by simp [go_sem, i1]) ?_
  simp only [List.getElem_toArray, List.getElem_cons_zero, List.getElem_cons_succ, Act.put, List.setIfInBounds_toArray, List.set_cons_zero, List.set_cons_succ]
  refine wpX_call _ rfl rfl (by simp [go_sem]) (kcl.out.mono ?_)
  rintro e w1 ⟨v1, rfl, hO1, hX1⟩
  obtain ⟨o1, c1, rfl⟩ := hO1.bv.form
  refine ⟨_, rfl, fun X => RowAt p 3 (dkV s.N M.sb M.cp M.mb s.pw) X, fun X hX => hX, hst0.carry hX1, ?_⟩
  simp only [List.getElem_toArray, List.getElem_cons_zero, List.getElem_cons_succ, Act.put, List.setIfInBounds_toArray, List.set_cons_zero, List.set_cons_succ]
  have hE1 := Ext.trans hD hX1
  have h1 := h.out.ext hE1
  have e1 := h1.sure.1 n hn
  have z1 := h1.sure.2.1 n hn
  obtain ⟨h2, hk2⟩ := h1.setS n hn _ f hO1.cb
  replace hk2 := hideit ((Keeps.of_ext hE1).trans (F := F) hk2 fun i hi => .inl hi)
  refine wpX_st _ (w1.setCell ⟨M.sb, n, none⟩ (.slice o1 512 c1)) rfl rfl (by simp [go_sem, e1, z1]) (fun X => RowAt p 3 (dkV s.N M.sb M.cp M.mb s.pw) X) (fun X hX => hX) h2.st ?_
  simp only [List.getElem_toArray, List.getElem_cons_zero, List.getElem_cons_succ, Act.put]
  refine wpX_nil ?_
  clear e1 z1 hst0 kcl hD hX1 hE1 hO1 h1
  generalize w1.setCell ⟨M.sb, n, none⟩ (.slice o1 512 c1) = w2 at *
  obtain ⟨w3, hr3, hm3, hg3, hs3⟩ := h2.mp.strike (t := 56) Try.underlying3 Try.underlying56 hok 0
  have ec := h2.c1
  have h3 := h2.turnM (C' := C) hg3 (mset M.m n none) (upN s.kc n 0) hm3 (fun x v hx hv => by
    by_cases e : x = (n : Int)
    · subst e
      rw [mset_same] at hv
      cases hv
    · rwa [mset_other _ e] at hv) (fun n' hn' => by
    by_cases e : n' = n
    · subst e
      exact .inl ⟨mset_same _ _ _, upN_same _ _ _⟩
    · exact .inr ⟨mset_other _ (fun e2 => e (by omega)) _, upN_other _ e _⟩) (fun n' hn' => by
    by_cases e : n' = n
    · subst e
      rw [upN_same]
      exact Nat.zero_le _
    · rw [upN_other _ e]
      exact h2.kcC n' hn') (map_notB hm3)
  have hk3 := hideit (hk2.out.trans (F := F) (but_keeps hg3 h2.fm) fun i hi => .inl hi)
  replace h3 := hideit h3
  clear h2 hk2 hs3 hg3 hm3
  go_upto_region 5 with (fail)
  refine wp_region_lit ?_
  refine wpList_run rfl (.pointer (some ⟨p, 0, none⟩)) (by simp [go_sem]) ?_
  simp only [Act.put, List.setIfInBounds_toArray, List.set_cons_zero, List.set_cons_succ]
  refine wpList_run rfl (.pointer (some ⟨p, 0, none⟩)) (by simp [go_sem]) ?_
  simp only [Act.put, List.setIfInBounds_toArray, List.set_cons_zero, List.set_cons_succ]
  refine wpList_run rfl (.pointer (some ⟨p, 1, none⟩)) (by simp [go_sem]) ?_
  simp only [Act.put, List.setIfInBounds_toArray, List.set_cons_zero, List.set_cons_succ]
  refine wpList_run rfl (.map (some M.mb)) (by simp [go_sem, ec]) ?_
  simp only [Act.put, List.setIfInBounds_toArray, List.set_cons_zero, List.set_cons_succ]
  refine wpList_run rfl (.int .i64 (n : Int)) (by simp [go_sem]) ?_
  simp only [Act.put, List.setIfInBounds_toArray, List.set_cons_zero, List.set_cons_succ]
  refine wpList_to rfl (.tuple #[]) w3 (exec_del (.tmp 26) (.tmp 27) rfl rfl rfl hr3) ?_
  simp only [Act.put]
  go_wp2
  go_ret
  exact ⟨rfl, ⟨_, h3.out⟩, hk3.out⟩
end
end Go.Proofs.Ytfaeieaelfjlpaa
