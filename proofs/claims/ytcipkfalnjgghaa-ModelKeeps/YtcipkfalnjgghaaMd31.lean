/-
  Helpers for ModelKeeps.
-/
import Derived.Test.YtcipkfalnjgghaaMd30
import Derived.Test.YtcipkfalnjgghaaMd18
import Derived.Test.YtcipkfalnjgghaaMd26
namespace Go.Proofs.Ytcipkfalnjgghaa
open Go.RowKit Go.BigFrame Go.Maps
set_option linter.unusedVariables false
set_option maxRecDepth 20000 in
set_option maxHeartbeats 4000000 in
theorem block_anyN (o : Option Addr) (l k : Nat) (f : Nat → BitVec 8) (w : World) (hV : BV (.slice o l k) l f w) : Calls Try.prog 21 #[.slice o l k] w fun e w' => ∃ z, e = .returned (.slice (some ⟨z, 0, none⟩) 512 512) ∧ w.heap.size ≤ z ∧ RowAt z 512 (yv (blkF l f)) w' ∧ Ext w w' := by
  have hno : Hid (∀ z, w.heap.size ≤ z → ∀ a, o = some a → a.block ≠ z) := fun z hz a e => by
    rcases hV with ⟨h, _⟩ | ⟨a', c, h, _, h3⟩
    · injection h with h; rw [e] at h; cases h
    · injection h with h; rw [e] at h; injection h with h; have := h3.2; rw [h]; omega
  replace hV := hideit hV
  have hE := hideit (Ext.refl w)
  go_enter Try.func21, Try.ntmps21
  go_upto_region 1 with (fail)
  refine wp_region_lit ?_
  refine wpList_made w Try.underlying22 (by kernel_rfl) rfl _ _ rfl 512 rfl rfl (by decide) ?_
  intro x1 hO1 hX1
  have Hz := hideit ((own_row512 hO1).congr (g' := yv (blkP l f 0)) fun j hj => by unfold yv blkP; rw [if_neg (by omega)])
  replace hV := hideit (hV.out.ext hX1)
  replace hE := hideit (Ext.trans hE.out hX1)
  simp only [Act.put, List.setIfInBounds_toArray, List.set_cons_zero, List.set_cons_succ]
  clear hO1 hX1
  obtain ⟨z, ez⟩ : ∃ b, b = w.heap.size := ⟨_, rfl⟩
  have ABz : Hid (w.heap.size ≤ z) := by rw [ez]; exact Nat.le_refl _
  rw [← ez] at Hz ⊢
  clear ez
  refine xm [some (.slice (some ⟨z, 0, none⟩) 512 512)] (by kernel_rfl) (by simp [xr, go_sem]) ?_
  simp only [xw, p0, p1, p2, p3]
  go_wp2
  go_loopw [4] (fun t X => ∃ i : Nat, i ≤ 512 ∧ t = .int .i64 (i : Int) ∧ RowAt z 512 (yv (blkP l f i)) X ∧ BV (.slice o l k) l f X ∧ Ext w X) (fun t _ => 512 - (intOf t).toNat)
  case atStart => exact ⟨0, by omega, rfl, Hz.out, hV.out, hE.out⟩
  case round =>
    obtain ⟨i, hi5, rfl, r0, rV, rE⟩ := hrel
    clear Hz hV hE
    replace r0 := hideit r0
    replace rV := hideit rV
    replace rE := hideit rE
    by_cases hi2 : (i : Int) < 512
    · have hi := hideit hi2
      have hin : Hid (i < 512) := by show i < 512; omega
      have ek : IntKind.i64.wrap ((i : Int) + 1) = ((i + 1 : Nat) : Int) := by rw [IntKind.wrap_i64]; omega
      have hge : Hid (¬ 512 ≤ (i : Int)) := by show ¬ 512 ≤ (i : Int); omega
      clear hi2 hi5
      by_cases hl1 : (l : Int) > 0
      · have hl := hideit hl1
        have hl0 : Hid (0 < l) := by show 0 < l; omega
        have hl2 : Hid (¬ l = 0) := by show ¬ l = 0; omega
        clear hl1
        obtain ⟨a, rfl⟩ : ∃ a, o = some a := by
          rcases rV.out with ⟨_, h0⟩ | ⟨a, c, h1, _⟩
          · have := hl0.out; omega
          · injection h1 with h1; exact ⟨a, h1⟩
        have haz : Hid (a.block ≠ z) := hno.out z ABz.out a rfl
        obtain ⟨m, hm⟩ : ∃ m : Nat, m = i % l := ⟨_, rfl⟩
        have hml : Hid (m < l) := by rw [hm]; exact Nat.mod_lt i hl0.out
        have hel : Hid (wr.cell? (a.add m) = some (.int .u8 ((f m).toNat : Int))) := rV.out.lie.1 m hml.out
        have hmod : Hid ((i : Int).tmod (l : Int) = (m : Int)) := by show (i : Int).tmod (l : Int) = _; rw [Int.tmod_eq_emod_of_nonneg (by omega), hm]; simp
        replace hm := hideit hm
        go_upto_region 3 with (fail)
        refine wp_region_lit ?_
        refine xm [some (.int .i64 (i : Int)), some (.bool true), some (.bool true), some (.slice (some a) l k), some (.int .i64 (l : Int)), some (.bool true), some (.bool true)] (by kernel_rfl) (by simp [xr, go_sem, hi.out, hl0.out]) ?_
        simp only [xw, p0, p1, p2, p3]
        go_upto_region 5 with (fail)
        refine wp_region_lit ?_
        refine xm [some (.slice (some ⟨z, 0, none⟩) 512 512), some (.int .i64 (i : Int)), some (.slice (some a) l k), some (.int .i64 (i : Int)), some (.slice (some a) l k), some (.int .i64 (l : Int)), some (.int .i64 (m : Int)), some (.pointer (some (a.add m))), some (.int .u8 ((f m).toNat : Int)), some (.pointer (some ⟨z, i, none⟩))] (by kernel_rfl) (by simp [xr, go_sem, hmod.out, hl2.out, hml.out, hel.out, hge.out, addr0]) ?_
        simp only [xw, p0, p1, p2, p3]
        have M0 : wr.cell? ⟨z, i, none⟩ = some (yv (blkP l f i) i) := r0.out.1 i hin.out
        have M1 : wr.frozen? ⟨z, i, none⟩ = false := r0.out.2.1 i hin.out
        have N0 := hideit ((r0.out.set i (.int .u8 ((f m).toNat : Int))).congr (g' := yv (blkP l f (i + 1))) (blk_next l f i m hm.out hl0.out))
        have NE := hideit (rE.out.setCell (p := ⟨z, i, none⟩) ABz.out (.int .u8 ((f m).toNat : Int)))
        have NV := hideit (rV.out.keep ((Keeps.refl (fun q => q = z) wr).setCell (p := ⟨z, i, none⟩) (.inl rfl) (.int .u8 ((f m).toNat : Int))) (fun a' n c e hz => haz.out (by injection e with e; injection e with e; rw [e]; exact hz)))
        refine xst rfl (wr.setCell ⟨z, i, none⟩ (.int .u8 ((f m).toNat : Int))) (by simp [go_sem, M0, M1]) ?_
        simp only [Act.put]
        generalize wr.setCell ⟨z, i, none⟩ (.int .u8 ((f m).toNat : Int)) = w9 at N0 NE NV ⊢
        clear M0 M1
        go_upto_region 4 with (fail)
        refine wp_region_lit ?_
        refine xm [some (.int .i64 (i : Int)), some (.int .i64 ((i + 1 : Nat) : Int)), some (.int .i64 ((i + 1 : Nat) : Int))] (by kernel_rfl) (by simp [xr, go_sem, ek]) ?_
        simp only [xw, p0, p1, p2, p3]
        go_wp2
        go_round
        case rel => exact ⟨i + 1, by have := hin.out; omega, rfl, N0.out, NV.out, NE.out⟩
        case measure => have := hin.out; simp [intOf]; omega
      · have hl := hideit hl1
        have hl0 : l = 0 := by omega
        have r9 := hideit (r0.out.congr (g' := yv (blkF l f)) fun j hj => by unfold yv blkP blkF; rw [if_pos hl0]; split <;> rfl)
        replace hl0 : Hid (¬ 0 < l) := by show ¬ 0 < l; omega
        clear hl1 r0 rV
        go_upto_region 3 with (fail)
        refine wp_region_lit ?_
        refine xm [some (.int .i64 (i : Int)), some (.bool true), some (.bool true), some (.slice o l k), some (.int .i64 (l : Int)), some (.bool false), some (.bool false)] (by kernel_rfl) (by simp [xr, go_sem, hi.out, hl0.out]) ?_
        simp only [xw, p0, p1, p2, p3]
        go_upto_region 6 with (fail)
        refine wp_region_lit ?_
        refine xm [some (.slice (some ⟨z, 0, none⟩) 512 512), some (.slice (some ⟨z, 0, none⟩) 512 512)] (by kernel_rfl) (by simp [xr, go_sem]) ?_
        simp only [xw, p0, p1, p2, p3]
        go_wp2
        go_ret
        exact ⟨z, rfl, ABz.out, r9.out, rE.out⟩
    · have hi := hideit hi2
      have hi6 : i = 512 := by omega
      have r9 := hideit (r0.out.congr (g' := yv (blkF l f)) fun j hj => by unfold yv blkP; rw [if_pos (by omega)])
      have hge : Hid (512 ≤ (i : Int)) := by show 512 ≤ (i : Int); omega
      clear hi2 hi5 r0 rV hi6
      go_upto_region 3 with (fail)
      refine wp_region_lit ?_
      refine xm [some (.int .i64 (i : Int)), some (.bool false), some (.bool false), none, none, none, some (.bool false)] (by kernel_rfl) (by simp [xr, go_sem, hge.out]) ?_
      simp only [xw, p0, p1, p2, p3]
      go_upto_region 6 with (fail)
      refine wp_region_lit ?_
      refine xm [some (.slice (some ⟨z, 0, none⟩) 512 512), some (.slice (some ⟨z, 0, none⟩) 512 512)] (by kernel_rfl) (by simp [xr, go_sem]) ?_
      simp only [xw, p0, p1, p2, p3]
      go_wp2
      go_ret
      exact ⟨z, rfl, ABz.out, r9.out, rE.out⟩
theorem block_pvN (o : Option Addr) (l k : Nat) (f : Nat → BitVec 8) (w : World) (hV : PV (.slice o l k) l f w) : Calls Try.prog 21 #[.slice o l k] w fun e w' => ∃ z, e = .returned (.slice (some ⟨z, 0, none⟩) 512 512) ∧ w.heap.size ≤ z ∧ RowAt z 512 (yv (blkF l f)) w' ∧ Ext w w' := by
  by_cases h0 : l = 0
  · exact block_zero o l k f w h0
  · exact block_anyN o l k f w (hV.bv (by omega))
theorem PB.block {o : Option Addr} {l k : Nat} {w : World} (h : PB (.slice o l k) w) : Calls Try.prog 21 #[.slice o l k] w fun e w' => ∃ z, e = .returned (.slice (some ⟨z, 0, none⟩) 512 512) ∧ PB (.slice (some ⟨z, 0, none⟩) 512 512) w' ∧ Ext w w' := by
  obtain ⟨f, hf, _⟩ := h.pv
  exact (block_pvN o l k f w hf).mono fun e w' ⟨z, h1, _, h2, h3⟩ => ⟨z, h1, ⟨512, _, h2.bv.pv, by unfold maxLen; omega⟩, h3⟩
theorem PB.form {v : Value} {w : World} (h : PB v w) : ∃ o l k, v = .slice o l k := by
  obtain ⟨l, b, h1, _⟩ := h
  obtain ⟨o, c, h2⟩ := h1.form
  exact ⟨o, l, c, h2⟩
theorem writtenN {F : Nat → Prop} {p C : Nat} {M : MLoc} {w : World} (s : MSt) (hM : MdM F p s C M w) (n : Nat) (hn : (wrL s).length = n) : Calls Try.prog 17 #[.pointer (some ⟨p, 0, none⟩)] w fun e w' => ∃ o c, e = .returned (.slice o n c) ∧ LI (.slice o n c) n (fun j => (wrL s).getD j 0) w' ∧ Ext w w' := by
  subst hn
  exact writtenL s hM
theorem wpList_toW {P : Program} {w : World} {ops : Array Oper} {rest : List Oper} {o : Oper} {a : Act} {Q : Exit → Act → World → Prop} (hw : Region.wanted o (yielded ops a.tmps) = true) (v : Value) (w' : World) (hr : (execOp a.eval o).run P w = .ok (.value v) w')
    (h : wpList P ops Q rest (a.put o.dst v) w') : wpList P ops Q (o :: rest) a w :=
  wpList_step fun K hK => by
    rw [if_pos hw]
    unfold Oper.wp
    rw [hr]
    simp only [Oper.upon]
    exact hK _ _ h
theorem xloadV {P : Program} {o : Oper} {a : Act} {w : World} (t : TypeId) (x : Operand) (ho : o.op = .load t x) (ad : Addr) (v : Value) (hx : a.eval x = .pointer (some ad)) (h : w.cell? ad = some v) (hg : ∀ w, (isAgg t).run P w = .ok false w) : (execOp a.eval o).run P w = .ok (.value v) w := by
  generalize a.eval = ρ at hx ⊢
  unfold execOp
  simp [ho, hx, Instr.loadAt, Instr.sureAddr, loadVar, hg, h, go_sem]
end Go.Proofs.Ytcipkfalnjgghaa
