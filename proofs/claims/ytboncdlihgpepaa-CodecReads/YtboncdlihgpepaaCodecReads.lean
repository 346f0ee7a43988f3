/-
  For all bytes and all Ops the law CodecReads returns true, and its arguments read behind the call as they read before.
-/
import Derived.Test.YtboncdlihgpepaaRows
import Derived.ProofKit
import Derived.OpenShut
import Derived.ShutString
import Derived.ChangeOld
import Derived.Below
import Derived.SizedLaws
import Derived.Test.YtboncdlihgpepaaLives
import Derived.Test.YtboncdlihgpepaaOpenO
import Derived.Test.YtboncdlihgpepaaRR2
import Derived.Test.YtboncdlihgpepaaLad
namespace Go.Proofs.Ytboncdlihgpepaa.codecReads
open Go.ChangeShapes Go.WideShapes Go.ChangeAt Go.RowKit
set_option linter.unusedVariables false

theorem own : ownKnob Try.prog.godebug = none := by kernel_rfl
theorem laidOut : laidOutB Try.prog = true := by kernel_rfl

open Go.BigFrame
/-- two readers, in one state -/
structure PairR (L x M y : Nat) (l : Nat) (f : Nat → BitVec 8) (bad : Bool) (w : World) : Prop where
  x1 : Rd L x l f bad w
  y1 : Rd M y l f bad w
  lx : L ≤ x
  xM : x < M
  My : M ≤ y
theorem PairR.ext {L x M y l : Nat} {f : Nat → BitVec 8} {bad : Bool} {w X : World} (h : PairR L x M y l f bad w) (k : Ext w X) : PairR L x M y l f bad X := ⟨h.x1.ext k, h.y1.ext k, h.lx, h.xM, h.My⟩
theorem PairR.step {L x M y l l' : Nat} {f f' : Nat → BitVec 8} {bad bad' : Bool} {w X Y : World} (h : PairR L x M y l f bad w) (k : But x w X) (r : Rd L x l' f' bad' X) (k2 : But y X Y) (r2 : Rd M y l' f' bad' Y) : PairR L x M y l' f' bad' Y :=
  ⟨r.but k2 (.inr (Nat.lt_of_lt_of_le h.xM h.My)) h.lx, r2, h.lx, h.xM, h.My⟩
theorem PairR.mid {L x M y l : Nat} {f : Nat → BitVec 8} {bad : Bool} {w X : World} (h : PairR L x M y l f bad w) (k : But x w X) : Rd M y l f bad X := h.y1.but k (.inl h.xM) h.My

set_option maxRecDepth 20000 in
set_option maxHeartbeats 4000000 in
theorem walk (v : Value) (lv : Value) (w : World) (hb0 : BArg v w) (ho0 : OArg lv w) : Calls Try.prog 3 #[v, lv] w fun e w' => e = .returned (.bool true) ∧ Below w.heap.size w w' := by
  obtain ⟨l, b, hB, hl⟩ := hb0.bv
  obtain ⟨ov, cv, rfl⟩ := hB.form
  replace hB := hideit hB
  clear hb0
  have hl9 : l ≤ 140737488355328 := by omega
  obtain ⟨n, cl, ol, ks, ms, hlv, hn9, hops⟩ : ∃ (n cl : Nat) (ol : Option Addr) (ks ms : Nat → Int), lv = .slice ol n cl ∧ n ≤ 9223372036854775807 ∧ ∀ i, i < n → ∃ (ab ao : Nat) (xv : BitVec 64) (u : Value), ol = some ⟨ab, ao, none⟩ ∧ OpAt ab (ao + i * 4) (ks i) (ms i) xv u w ∧ u.oneCell' = true := by
    rcases ho0 with rfl | ⟨ab, ao, n, cap, ks, ms, xs, us, ls, bs, rfl, h1, h2, h3⟩
    · exact ⟨0, 0, none, fun _ => 0, fun _ => 0, rfl, by omega, fun i hi => by omega⟩
    · exact ⟨n, cap, _, ks, ms, rfl, h2, fun i hi => ⟨ab, ao, xs i, us i, rfl, (h3 i hi).1, (h3 i hi).2.one⟩⟩
  subst hlv
  replace hops := hideit hops
  clear ho0
  have hE0 : Ext w (w.alloc (.cells #[] 5)) := (Below.refl _ _).alloc (Nat.le_refl _) _
  have hO0 := hideit (own_empty w w.heap.size 5 (yv b) (Nat.le_refl _))
  have hB0 := hideit (hB.out.ext hE0)
  replace hE0 := hideit hE0
  go_enter Try.func3, Try.ntmps3
  go_upto_region 1 with (fail)
  refine wp_region_lit ?_
  refine wpList_to rfl (.slice (some ⟨w.heap.size, 0, none⟩) 0 0) (w.alloc (.cells #[] 5)) (by simp [go_sem]) ?_
  simp only [Act.put, List.setIfInBounds_toArray, List.set_cons_zero, List.set_cons_succ]
  refine wpList_run rfl (.slice ov l cv) (by simp [go_sem]) ?_
  simp only [Act.put, List.setIfInBounds_toArray, List.set_cons_zero, List.set_cons_succ]
  refine wpList_growV (n := 0) (base := w.heap.size) elem22 rfl (.tmp 11) (.tmp 12) rfl rfl hO0.out (.slice ov l cv) l b (yv b) rfl hB0.out (fun _ _ => rfl) (fun j hj => by rw [Nat.zero_add]) (by omega) (Below.size hE0.out) ?_
  intro v1 w1 hO1 hg1
  rw [Nat.zero_add] at hO1
  have hE1 := hideit (grownE hE0.out hO0.out (Nat.le_refl _) hg1)
  replace hO1 := hideit hO1
  obtain ⟨o1, c1, rfl⟩ := hO1.out.bv.form
  simp only [Act.put, List.setIfInBounds_toArray, List.set_cons_zero, List.set_cons_succ]
  clear hE0 hO0 hg1 hB0
  go_upto_region 5 with (first
    | (go_at_call 9; refine (newr_any _ l b _ hO1.out.bv hl9).mono ?_; rintro e w2 ⟨x, rfl, hx, hR2, hE2⟩; have hB2 := hideit (hB.out.ext (Ext.trans hE1.out hE2)); have hO2 := hideit (hO1.out.ext hE2); have hw2 : Hid (w1.heap.size ≤ x) := hx; replace hR2 := hideit hR2; replace hE2 := hideit (Ext.trans hE1.out hE2))
    | (go_at_call 10; refine (rrnew_any _ l b _ hB2.out hl9).mono ?_; rintro e w3 ⟨y, rfl, hy, hR3, hE3⟩; have hP : Hid (PairR w1.heap.size x w2.heap.size y l b false w3) := ⟨hR2.out.ext hE3, hR3, hx, hR2.out.lt, hy⟩; have hO3 := hideit (hO2.out.ext hE3); replace hE3 := hideit (Ext.trans hE2.out hE3); clear hR2 hR3 hE2 hx hy hB2 hO2)
    | (go_at_call 11; refine (lives_any _).mono ?_; rintro e w4 ⟨rfl, hE4⟩; replace hP := hideit (hP.out.ext hE4); have hO4 := hideit (hO3.out.ext hE4); replace hE4 := hideit (Ext.trans hE3.out hE4); clear hE3 hO3))
  have hL1 := hideit (Below.size hE1.out)
  obtain ⟨L, hL⟩ : ∃ L, L = w1.heap.size := ⟨_, rfl⟩
  obtain ⟨M, hM⟩ : ∃ M, M = w2.heap.size := ⟨_, rfl⟩
  rw [← hL] at hP hL1
  rw [← hM] at hP
  have hOb : Hid (∀ k, (Value.slice o1 l c1).ownBlock = some k → k < L) := fun k hk => by rw [hL]; exact (hO1.out.lt k hk).2
  have hxy := hideit (And.intro hP.out.lx (And.intro hP.out.xM hP.out.My))
  clear hL hM hO1 hE1 hw2
  go_wp2
  go_loopw [8] (fun i wr => ∃ k : Nat, k ≤ n ∧ i = .int .i64 k ∧ ∃ (l' : Nat) (f : Nat → BitVec 8) (bad : Bool), l' ≤ l ∧ PairR L x M y l' f bad wr ∧ Ext w wr ∧ OwnB w.heap.size 5 (.slice o1 l c1) l (yv b) wr) (fun i _ => n - (intOf i).toNat)
  case atStart => exact ⟨0, Nat.zero_le _, rfl, l, b, false, Nat.le_refl _, hP.out, hE4.out, hO4.out⟩
  case round =>
    clear hP hE4 hO4
    obtain ⟨k, hk, rfl, l', f, bad, hl', hP, hE, hO⟩ := hrel
    replace hP := hideit hP
    replace hE := hideit hE
    replace hO := hideit hO
    by_cases hlt : k < n
    · have k0 : (0 : Int) ≤ (k : Int) := by omega
      have k1 : (k : Int) < (n : Int) := by omega
      obtain ⟨ab, ao, xv, u, rfl, hop, hu1⟩ := hops.out k hlt
      go_upto_region 8 with (fail)
      obtain ⟨ob, hob⟩ : ∃ ob, ob = wr.heap.size := ⟨_, rfl⟩
      have hN : RowAt wr.heap.size 4 (opv 0 0 0#64 (.slice none 0 0)) (wr.alloc (.cells #[.int .i64 0, .int .i64 0, .int .u64 0, .slice none 0 0] 31)) := RowAt.newOf wr 4 _ 31 _ (fun j hj => by
        rcases (by omega : j = 0 ∨ j = 1 ∨ j = 2 ∨ j = 3) with rfl | rfl | rfl | rfl <;> rfl)
      have hN2 : RowAt wr.heap.size 4 (opv (ks k) (ms k) xv u) ((wr.alloc (.cells #[.int .i64 0, .int .i64 0, .int .u64 0, .slice none 0 0] 31)).setCells wr.heap.size 0 (row 4 (opv (ks k) (ms k) xv u))) := hN.cells
      have hEn : Ext wr ((wr.alloc (.cells #[.int .i64 0, .int .i64 0, .int .u64 0, .slice none 0 0] 31)).setCells wr.heap.size 0 (row 4 (opv (ks k) (ms k) xv u))) := below_setCells _ (Nat.le_refl _) _ _ _ ((Below.refl _ _).alloc (Nat.le_refl _) _)
      have hrg := opv_range (opAt_ext hop hE.out)
      refine wp_region_lit ?_
      refine wpList_run rfl (.slice (some ⟨ab, ao, none⟩) n cl) (by simp [go_sem]) ?_
      simp only [Act.put, List.setIfInBounds_toArray, List.set_cons_zero, List.set_cons_succ]
      refine wpList_run rfl (.int .i64 (k : Int)) (by simp [go_sem]) ?_
      simp only [Act.put, List.setIfInBounds_toArray, List.set_cons_zero, List.set_cons_succ]
      refine wpList_run rfl (.pointer (some ⟨ab, ao + k * 4, none⟩)) (by simp [go_sem, k1]) ?_
      simp only [Act.put, List.setIfInBounds_toArray, List.set_cons_zero, List.set_cons_succ]
      refine wpList_load_mid rfl 31 (.tmp 32) rfl ab (ao + k * 4) rfl (row 4 (opv (ks k) (ms k) xv u)) _ hrg Try.underlying31 rfl (by kernel_rfl) ?_
      simp only [Act.put, List.setIfInBounds_toArray, List.set_cons_zero, List.set_cons_succ]
      refine wpList_to rfl (.pointer (some ⟨wr.heap.size, 0, none⟩)) (wr.alloc (.cells #[.int .i64 0, .int .i64 0, .int .u64 0, .slice none 0 0] 31)) (by simp [go_sem]) ?_
      simp only [Act.put, List.setIfInBounds_toArray, List.set_cons_zero, List.set_cons_succ]
      refine wpList_store_mid rfl 31 (.tmp 9) (.tmp 33) rfl wr.heap.size 0 (row 4 (opv (ks k) (ms k) xv u)).toArray rfl rfl (by rw [row_size]; exact hN.there) (by kernel_rfl) (row_one (opv_one hu1)) ?_
      have hP2 := hideit (hP.out.ext hEn)
      have hE2 := hideit (Ext.trans hE.out hEn)
      have hO2 := hideit (hO.out.ext hEn)
      have hN3 := hideit hN2
      have hxb : Hid (x < ob ∧ y < ob) := ⟨by rw [hob]; exact hP.out.x1.lt, by rw [hob]; exact hP.out.y1.lt⟩
      clear hN hN2 hEn hrg hP hE hO hop
      rw [show (row 4 (opv (ks k) (ms k) xv u)).toArray.toList = row 4 (opv (ks k) (ms k) xv u) from rfl]
      generalize (wr.alloc (.cells #[.int .i64 0, .int .i64 0, .int .u64 0, .slice none 0 0] 31)).setCells wr.heap.size 0 (row 4 (opv (ks k) (ms k) xv u)) = W2 at *
      rw [← hob] at hN3 ⊢
      have e0 : W2.cell? ⟨ob, 0, none⟩ = some (.int .i64 (ks k)) := hN3.out.1 0 (by decide)
      have e1 : W2.cell? ⟨ob, 1, none⟩ = some (.int .i64 (ms k)) := hN3.out.1 1 (by decide)
      have hl8 : l' ≤ 140737488355328 := by omega
      clear hN3 hob hops hu1
      obtain ⟨K, hK⟩ : ∃ K, K = ks k := ⟨_, rfl⟩
      obtain ⟨N, hN⟩ : ∃ N, N = ms k := ⟨_, rfl⟩
      rw [← hK] at e0
      rw [← hN] at e1
      clear hK hN
      simp only [Act.put]
      by_cases q1 : K = 1
      · subst q1
        have hC0 : (fun X : World => X.cell? ⟨ob, 1, none⟩ = some (.int .i64 N)) W2.drew := e1
        have hPd := hideit (hP2.out.ext (Ext.refl W2).draw)
        have hEd := hideit (Ext.draw hE2.out)
        have hOd := hideit (hO2.out.ext (Ext.refl W2).draw)
        clear hP2 hE2 hO2
        go_upto_region 12 with (fail)
        refine wp_region_lad (fun X : World => X.cell? ⟨ob, 1, none⟩ = some (.int .i64 N)) [(false, 0), (false, 1), (false, 2), (false, 4), (false, 5), (false, 6), (true, 3), (true, 7), (false, 8), (false, 9)] (by kernel_rfl) (by kernel_rfl) (by decide +kernel) (by decide +kernel) (by decide +kernel) (by decide +kernel) hC0 ?_
        refine wpX_f _ (.pointer (some ⟨x, 0, none⟩)) rfl rfl (fun X _ => by simp [go_sem]) ?_
        simp only [List.getElem_toArray, List.getElem_cons_zero, Act.put, List.setIfInBounds_toArray, List.set_cons_zero, List.set_cons_succ]
        refine wpX_f _ (.pointer (some ⟨ob, 1, none⟩)) rfl rfl (fun X _ => by simp [go_sem]) ?_
        simp only [List.getElem_toArray, List.getElem_cons_zero, List.getElem_cons_succ, Act.put, List.setIfInBounds_toArray, List.set_cons_zero, List.set_cons_succ]
        refine wpX_f _ (.int .i64 N) rfl rfl (fun X hX => by simp [go_sem, show X.cell? ⟨ob, 1, none⟩ = some (.int .i64 N) from hX]) ?_
        simp only [List.getElem_toArray, List.getElem_cons_zero, List.getElem_cons_succ, Act.put, List.setIfInBounds_toArray, List.set_cons_zero, List.set_cons_succ]
        refine wpX_f _ (.pointer (some ⟨y, 0, none⟩)) rfl rfl (fun X _ => by simp [go_sem]) ?_
        simp only [List.getElem_toArray, List.getElem_cons_zero, List.getElem_cons_succ, Act.put, List.setIfInBounds_toArray, List.set_cons_zero, List.set_cons_succ]
        refine wpX_f _ (.pointer (some ⟨ob, 1, none⟩)) rfl rfl (fun X _ => by simp [go_sem]) ?_
        simp only [List.getElem_toArray, List.getElem_cons_zero, List.getElem_cons_succ, Act.put, List.setIfInBounds_toArray, List.set_cons_zero, List.set_cons_succ]
        refine wpX_f _ (.int .i64 N) rfl rfl (fun X hX => by simp [go_sem, show X.cell? ⟨ob, 1, none⟩ = some (.int .i64 N) from hX]) ?_
        simp only [List.getElem_toArray, List.getElem_cons_zero, List.getElem_cons_succ, Act.put, List.setIfInBounds_toArray, List.set_cons_zero, List.set_cons_succ]
        have kx := ruint_all L x l' N f bad W2.drew hPd.out.x1 hl8
        obtain ⟨l2, hl2⟩ : ∃ l2, l2 = cL (gU N bad l') N l' := ⟨_, rfl⟩
        obtain ⟨f2, hf2⟩ : ∃ f2, f2 = cF (gU N bad l') N f := ⟨_, rfl⟩
        obtain ⟨bad2, hb2⟩ : ∃ bad2, bad2 = !(gU N bad l') := ⟨_, rfl⟩
        obtain ⟨r2, hr2⟩ : ∃ r2, r2 = uR (gU N bad l') N f := ⟨_, rfl⟩
        have hl22 : l2 ≤ l' := by rw [hl2]; exact cL_le _ _ _
        rw [← hl2, ← hf2, ← hb2, ← hr2] at kx
        refine wpX_call _ rfl rfl (by simp [go_sem]) (kx.mono ?_)
        rintro e W3 ⟨rfl, hR3, hB3⟩
        have ky := rruint_all M y l' N f bad W3 (hPd.out.mid hB3) hl8
        rw [← hl2, ← hf2, ← hb2, ← hr2] at ky
        have hC1 : W3.cell? ⟨ob, 1, none⟩ = some (.int .i64 N) := (hB3.cell ⟨ob, 1, none⟩ (World.block_lt_of_cell? _ _ hC0) (by have := hxb.out; show ob ≠ x; omega)).trans hC0
        refine ⟨_, rfl, _, fun _ h => h, hC1, ?_⟩
        simp only [List.getElem_toArray, List.getElem_cons_zero, List.getElem_cons_succ, Act.put, List.setIfInBounds_toArray, List.set_cons_zero, List.set_cons_succ]
        refine wpX_call _ rfl rfl (by simp [go_sem]) (ky.mono ?_)
        rintro e W4 ⟨rfl, hR4, hB4⟩
        refine ⟨_, rfl, _, fun _ h => h, (hB4.cell ⟨ob, 1, none⟩ (World.block_lt_of_cell? _ _ hC1) (by have := hxb.out; show ob ≠ y; omega)).trans hC1, ?_⟩
        simp only [List.getElem_toArray, List.getElem_cons_zero, List.getElem_cons_succ, Act.put, List.setIfInBounds_toArray, List.set_cons_zero, List.set_cons_succ]
        refine wpX_f _ (.bool true) rfl rfl (fun X _ => by simp [go_sem]) ?_
        simp only [List.getElem_toArray, List.getElem_cons_zero, List.getElem_cons_succ, Act.put, List.setIfInBounds_toArray, List.set_cons_zero, List.set_cons_succ]
        refine wpX_f _ (.bool true) rfl rfl (fun X _ => by simp [go_sem]) ?_
        simp only [List.getElem_toArray, List.getElem_cons_zero, List.getElem_cons_succ, Act.put, List.setIfInBounds_toArray, List.set_cons_zero, List.set_cons_succ]
        refine wpX_nil ?_
        clear hC1 kx ky hl2 hf2 hb2 hr2 hC0
        have hP3 := hideit (hPd.out.step hB3 hR3 hB4 hR4)
        have hE3 := hideit (Ext.but (Ext.but hEd.out hB3 (by have := hL1.out; have := hxy.out; omega)) hB4 (by have := hL1.out; have := hxy.out; omega))
        have hO3 := hideit ((hOd.out.but hB3 (fun h => by have := hOb.out _ h; have := hxy.out; omega)).but hB4 (fun h => by have := hOb.out _ h; have := hxy.out; omega))
        clear hPd hEd hOd hR3 hR4 hB3 hB4
        obtain ⟨oy, cy, hAy, _⟩ := rd_cells hP3.out.y1
        have ey := hAy.bytes
        have hC0 : (fun X : World => X.cell? ⟨y, 0, none⟩ = some (.slice oy l2 cy)) W4.drew := ey
        clear hAy
        go_upto_region 18 with (fail)
        refine wp_region_lad (fun X : World => X.cell? ⟨y, 0, none⟩ = some (.slice oy l2 cy)) [(false, 0), (false, 1), (false, 2), (false, 3), (false, 5), (false, 6), (false, 7), (false, 8), (false, 9), (true, 4), (false, 10), (false, 11)] (by kernel_rfl) (by kernel_rfl) (by decide +kernel) (by decide +kernel) (by decide +kernel) (by decide +kernel) hC0 ?_
        refine wpX_f _ (.bool true) rfl rfl (fun X _ => by simp [go_sem]) ?_
        simp only [List.getElem_toArray, List.getElem_cons_zero, Act.put, List.setIfInBounds_toArray, List.set_cons_zero, List.set_cons_succ]
        refine wpX_f _ (.bool false) rfl rfl (fun X _ => by simp [go_sem]) ?_
        simp only [List.getElem_toArray, List.getElem_cons_zero, List.getElem_cons_succ, Act.put, List.setIfInBounds_toArray, List.set_cons_zero, List.set_cons_succ]
        refine wpX_f _ (.bool false) rfl rfl (fun X _ => by simp [go_sem]) ?_
        simp only [List.getElem_toArray, List.getElem_cons_zero, List.getElem_cons_succ, Act.put, List.setIfInBounds_toArray, List.set_cons_zero, List.set_cons_succ]
        refine wpX_f _ (.pointer (some ⟨x, 0, none⟩)) rfl rfl (fun X _ => by simp [go_sem]) ?_
        simp only [List.getElem_toArray, List.getElem_cons_zero, List.getElem_cons_succ, Act.put, List.setIfInBounds_toArray, List.set_cons_zero, List.set_cons_succ]
        refine wpX_f _ (.pointer (some ⟨y, 0, none⟩)) rfl rfl (fun X _ => by simp [go_sem]) ?_
        simp only [List.getElem_toArray, List.getElem_cons_zero, List.getElem_cons_succ, Act.put, List.setIfInBounds_toArray, List.set_cons_zero, List.set_cons_succ]
        refine wpX_f _ (.pointer (some ⟨y, 0, none⟩)) rfl rfl (fun X _ => by simp [go_sem]) ?_
        simp only [List.getElem_toArray, List.getElem_cons_zero, List.getElem_cons_succ, Act.put, List.setIfInBounds_toArray, List.set_cons_zero, List.set_cons_succ]
        refine wpX_f _ (.pointer (some ⟨y, 0, none⟩)) rfl rfl (fun X _ => by simp [go_sem]) ?_
        simp only [List.getElem_toArray, List.getElem_cons_zero, List.getElem_cons_succ, Act.put, List.setIfInBounds_toArray, List.set_cons_zero, List.set_cons_succ]
        refine wpX_f _ (.slice oy l2 cy) rfl rfl (fun X hX => by simp [go_sem, show X.cell? ⟨y, 0, none⟩ = some (.slice oy l2 cy) from hX]) ?_
        simp only [List.getElem_toArray, List.getElem_cons_zero, List.getElem_cons_succ, Act.put, List.setIfInBounds_toArray, List.set_cons_zero, List.set_cons_succ]
        refine wpX_f _ (.int .i64 (l2 : Int)) rfl rfl (fun X _ => by simp [go_sem]) ?_
        simp only [List.getElem_toArray, List.getElem_cons_zero, List.getElem_cons_succ, Act.put, List.setIfInBounds_toArray, List.set_cons_zero, List.set_cons_succ]
        refine wpX_call _ rfl rfl (by simp [go_sem]) ((rleft_any L x l2 f2 bad2 W4.drew (hP3.out.x1.ext (Ext.refl W4).draw)).mono ?_)
        rintro e W9 ⟨rfl, hW9⟩
        refine ⟨_, rfl, _, fun _ h => h, by rw [hW9]; exact ey, ?_⟩
        rw [hW9]
        simp only [List.getElem_toArray, List.getElem_cons_zero, List.getElem_cons_succ, Act.put, List.setIfInBounds_toArray, List.set_cons_zero, List.set_cons_succ]
        refine wpX_f _ (.bool false) rfl rfl (fun X _ => by simp [go_sem]) ?_
        simp only [List.getElem_toArray, List.getElem_cons_zero, List.getElem_cons_succ, Act.put, List.setIfInBounds_toArray, List.set_cons_zero, List.set_cons_succ]
        refine wpX_f _ (.bool false) rfl rfl (fun X _ => by simp [go_sem]) ?_
        simp only [List.getElem_toArray, List.getElem_cons_zero, List.getElem_cons_succ, Act.put, List.setIfInBounds_toArray, List.set_cons_zero, List.set_cons_succ]
        refine wpX_nil ?_
        clear hC0 ey hW9
        have hPz := hideit (hP3.out.ext (Ext.refl W4).draw)
        have hEz := hideit (Ext.draw hE3.out)
        have hOz := hideit (hO3.out.ext (Ext.refl W4).draw)
        clear hP3 hE3 hO3
        go_wp2
        exact ⟨⟨k + 1, by omega, by go_num, l2, f2, bad2, by omega, hPz.out, hEz.out, hOz.out⟩, by simp [intOf]; omega⟩
      · by_cases q2 : K = 2
        · subst q2
          have hC0 : (fun X : World => X.cell? ⟨ob, 1, none⟩ = some (.int .i64 N)) W2.drew := e1
          have hPd := hideit (hP2.out.ext (Ext.refl W2).draw)
          have hEd := hideit (Ext.draw hE2.out)
          have hOd := hideit (hO2.out.ext (Ext.refl W2).draw)
          clear hP2 hE2 hO2
          go_upto_region 14 with (fail)
          refine wp_region_lad (fun X : World => X.cell? ⟨ob, 1, none⟩ = some (.int .i64 N)) [(false, 0), (false, 1), (false, 2), (false, 5), (false, 6), (false, 7), (true, 3), (false, 4), (true, 8), (false, 9), (false, 10), (false, 11)] (by kernel_rfl) (by kernel_rfl) (by decide +kernel) (by decide +kernel) (by decide +kernel) (by decide +kernel) hC0 ?_
          refine wpX_f _ (.pointer (some ⟨x, 0, none⟩)) rfl rfl (fun X _ => by simp [go_sem]) ?_
          simp only [List.getElem_toArray, List.getElem_cons_zero, Act.put, List.setIfInBounds_toArray, List.set_cons_zero, List.set_cons_succ]
          refine wpX_f _ (.pointer (some ⟨ob, 1, none⟩)) rfl rfl (fun X _ => by simp [go_sem]) ?_
          simp only [List.getElem_toArray, List.getElem_cons_zero, List.getElem_cons_succ, Act.put, List.setIfInBounds_toArray, List.set_cons_zero, List.set_cons_succ]
          refine wpX_f _ (.int .i64 N) rfl rfl (fun X hX => by simp [go_sem, show X.cell? ⟨ob, 1, none⟩ = some (.int .i64 N) from hX]) ?_
          simp only [List.getElem_toArray, List.getElem_cons_zero, List.getElem_cons_succ, Act.put, List.setIfInBounds_toArray, List.set_cons_zero, List.set_cons_succ]
          refine wpX_f _ (.pointer (some ⟨y, 0, none⟩)) rfl rfl (fun X _ => by simp [go_sem]) ?_
          simp only [List.getElem_toArray, List.getElem_cons_zero, List.getElem_cons_succ, Act.put, List.setIfInBounds_toArray, List.set_cons_zero, List.set_cons_succ]
          refine wpX_f _ (.pointer (some ⟨ob, 1, none⟩)) rfl rfl (fun X _ => by simp [go_sem]) ?_
          simp only [List.getElem_toArray, List.getElem_cons_zero, List.getElem_cons_succ, Act.put, List.setIfInBounds_toArray, List.set_cons_zero, List.set_cons_succ]
          refine wpX_f _ (.int .i64 N) rfl rfl (fun X hX => by simp [go_sem, show X.cell? ⟨ob, 1, none⟩ = some (.int .i64 N) from hX]) ?_
          simp only [List.getElem_toArray, List.getElem_cons_zero, List.getElem_cons_succ, Act.put, List.setIfInBounds_toArray, List.set_cons_zero, List.set_cons_succ]
          have kx := rbytes_all L x l' N f bad W2.drew hPd.out.x1 hl8
          obtain ⟨l2, hl2⟩ : ∃ l2, l2 = cL (gB N bad l') N l' := ⟨_, rfl⟩
          obtain ⟨f2, hf2⟩ : ∃ f2, f2 = cF (gB N bad l') N f := ⟨_, rfl⟩
          obtain ⟨bad2, hb2⟩ : ∃ bad2, bad2 = !(gB N bad l') := ⟨_, rfl⟩
          obtain ⟨r2, hr2⟩ : ∃ r2, r2 = bN (gB N bad l') N := ⟨_, rfl⟩
          have hl22 : l2 ≤ l' := by rw [hl2]; exact cL_le _ _ _
          rw [← hl2, ← hf2, ← hb2, ← hr2] at kx
          refine wpX_call _ rfl rfl (by simp [go_sem]) (kx.mono ?_)
          rintro e W3 ⟨v3, rfl, hO3', hR3, hB3⟩
          have ky := rrbytes_all M y l' N f bad W3 (hPd.out.mid hB3) hl8
          rw [← hl2, ← hf2, ← hb2, ← hr2] at ky
          have hC1 : W3.cell? ⟨ob, 1, none⟩ = some (.int .i64 N) := (hB3.cell ⟨ob, 1, none⟩ (World.block_lt_of_cell? _ _ hC0) (by have := hxb.out; show ob ≠ x; omega)).trans hC0
          have hyd : y < W2.drew.heap.size := hPd.out.y1.lt
          obtain ⟨o3, c3, rfl⟩ := hO3'.bv.form
          refine ⟨_, rfl, fun X => X.cell? ⟨ob, 1, none⟩ = some (.int .i64 N) ∧ BV (.slice o3 r2 c3) r2 f X, fun _ h => h.1, ⟨hC1, hO3'.bv⟩, ?_⟩
          simp only [List.getElem_toArray, List.getElem_cons_zero, List.getElem_cons_succ, Act.put, List.setIfInBounds_toArray, List.set_cons_zero, List.set_cons_succ]
          obtain ⟨str, hstr⟩ : ∃ str, str = bstr r2 (fun j => ((f j).toNat : Int)) := ⟨_, rfl⟩
          have hcv : ∀ oa ca X, BV (.slice oa r2 ca) r2 f X → (convert 22 9 (.slice oa r2 ca)).run Try.prog X = .ok (.string str) X := fun oa ca X h => by rw [hstr]; exact convV _ _ _ _ h
          clear hstr
          refine wpX_f _ (.string str) rfl rfl (fun X hX => by simp [go_sem, hcv _ _ _ hX.2]) ?_
          simp only [List.getElem_toArray, List.getElem_cons_zero, List.getElem_cons_succ, Act.put, List.setIfInBounds_toArray, List.set_cons_zero, List.set_cons_succ]
          refine wpX_call _ rfl rfl (by simp [go_sem]) (ky.mono ?_)
          rintro e W4 ⟨v4, rfl, hO4', hR4, hB4⟩
          have hC2 : W4.cell? ⟨ob, 1, none⟩ = some (.int .i64 N) := (hB4.cell ⟨ob, 1, none⟩ (World.block_lt_of_cell? _ _ hC1) (by have := hxb.out; show ob ≠ y; omega)).trans hC1
          obtain ⟨o4, c4, rfl⟩ := hO4'.bv.form
          refine ⟨_, rfl, fun X => (X.cell? ⟨ob, 1, none⟩ = some (.int .i64 N) ∧ BV (.slice o3 r2 c3) r2 f X) ∧ BV (.slice o4 r2 c4) r2 f X, fun _ h => h.1, ⟨⟨hC2, (hO3'.but hB4 (own_noblock hO3' hyd)).bv⟩, hO4'.bv⟩, ?_⟩
          simp only [List.getElem_toArray, List.getElem_cons_zero, List.getElem_cons_succ, Act.put, List.setIfInBounds_toArray, List.set_cons_zero, List.set_cons_succ]
          refine wpX_f _ (.string str) rfl rfl (fun X hX => by simp [go_sem, hcv _ _ _ hX.2]) ?_
          simp only [List.getElem_toArray, List.getElem_cons_zero, List.getElem_cons_succ, Act.put, List.setIfInBounds_toArray, List.set_cons_zero, List.set_cons_succ]
          refine wpX_f _ (.bool true) rfl rfl (fun X _ => by simp [go_sem]) ?_
          simp only [List.getElem_toArray, List.getElem_cons_zero, List.getElem_cons_succ, Act.put, List.setIfInBounds_toArray, List.set_cons_zero, List.set_cons_succ]
          refine wpX_f _ (.bool true) rfl rfl (fun X _ => by simp [go_sem]) ?_
          simp only [List.getElem_toArray, List.getElem_cons_zero, List.getElem_cons_succ, Act.put, List.setIfInBounds_toArray, List.set_cons_zero, List.set_cons_succ]
          refine wpX_nil ?_
          clear hC1 hC2 kx ky hl2 hf2 hb2 hr2 hC0 hcv hO3' hO4' hyd
          have hP3 := hideit (hPd.out.step hB3 hR3 hB4 hR4)
          have hE3 := hideit (Ext.but (Ext.but hEd.out hB3 (by have := hL1.out; have := hxy.out; omega)) hB4 (by have := hL1.out; have := hxy.out; omega))
          have hO3 := hideit ((hOd.out.but hB3 (fun h => by have := hOb.out _ h; have := hxy.out; omega)).but hB4 (fun h => by have := hOb.out _ h; have := hxy.out; omega))
          clear hPd hEd hOd hR3 hR4 hB3 hB4
          obtain ⟨oy, cy, hAy, _⟩ := rd_cells hP3.out.y1
          have ey := hAy.bytes
          have hC0 : (fun X : World => X.cell? ⟨y, 0, none⟩ = some (.slice oy l2 cy)) W4.drew := ey
          clear hAy
          go_upto_region 18 with (fail)
          refine wp_region_lad (fun X : World => X.cell? ⟨y, 0, none⟩ = some (.slice oy l2 cy)) [(false, 0), (false, 1), (false, 2), (false, 3), (false, 5), (false, 6), (false, 7), (false, 8), (false, 9), (true, 4), (false, 10), (false, 11)] (by kernel_rfl) (by kernel_rfl) (by decide +kernel) (by decide +kernel) (by decide +kernel) (by decide +kernel) hC0 ?_
          refine wpX_f _ (.bool true) rfl rfl (fun X _ => by simp [go_sem]) ?_
          simp only [List.getElem_toArray, List.getElem_cons_zero, Act.put, List.setIfInBounds_toArray, List.set_cons_zero, List.set_cons_succ]
          refine wpX_f _ (.bool false) rfl rfl (fun X _ => by simp [go_sem]) ?_
          simp only [List.getElem_toArray, List.getElem_cons_zero, List.getElem_cons_succ, Act.put, List.setIfInBounds_toArray, List.set_cons_zero, List.set_cons_succ]
          refine wpX_f _ (.bool false) rfl rfl (fun X _ => by simp [go_sem]) ?_
          simp only [List.getElem_toArray, List.getElem_cons_zero, List.getElem_cons_succ, Act.put, List.setIfInBounds_toArray, List.set_cons_zero, List.set_cons_succ]
          refine wpX_f _ (.pointer (some ⟨x, 0, none⟩)) rfl rfl (fun X _ => by simp [go_sem]) ?_
          simp only [List.getElem_toArray, List.getElem_cons_zero, List.getElem_cons_succ, Act.put, List.setIfInBounds_toArray, List.set_cons_zero, List.set_cons_succ]
          refine wpX_f _ (.pointer (some ⟨y, 0, none⟩)) rfl rfl (fun X _ => by simp [go_sem]) ?_
          simp only [List.getElem_toArray, List.getElem_cons_zero, List.getElem_cons_succ, Act.put, List.setIfInBounds_toArray, List.set_cons_zero, List.set_cons_succ]
          refine wpX_f _ (.pointer (some ⟨y, 0, none⟩)) rfl rfl (fun X _ => by simp [go_sem]) ?_
          simp only [List.getElem_toArray, List.getElem_cons_zero, List.getElem_cons_succ, Act.put, List.setIfInBounds_toArray, List.set_cons_zero, List.set_cons_succ]
          refine wpX_f _ (.pointer (some ⟨y, 0, none⟩)) rfl rfl (fun X _ => by simp [go_sem]) ?_
          simp only [List.getElem_toArray, List.getElem_cons_zero, List.getElem_cons_succ, Act.put, List.setIfInBounds_toArray, List.set_cons_zero, List.set_cons_succ]
          refine wpX_f _ (.slice oy l2 cy) rfl rfl (fun X hX => by simp [go_sem, show X.cell? ⟨y, 0, none⟩ = some (.slice oy l2 cy) from hX]) ?_
          simp only [List.getElem_toArray, List.getElem_cons_zero, List.getElem_cons_succ, Act.put, List.setIfInBounds_toArray, List.set_cons_zero, List.set_cons_succ]
          refine wpX_f _ (.int .i64 (l2 : Int)) rfl rfl (fun X _ => by simp [go_sem]) ?_
          simp only [List.getElem_toArray, List.getElem_cons_zero, List.getElem_cons_succ, Act.put, List.setIfInBounds_toArray, List.set_cons_zero, List.set_cons_succ]
          refine wpX_call _ rfl rfl (by simp [go_sem]) ((rleft_any L x l2 f2 bad2 W4.drew (hP3.out.x1.ext (Ext.refl W4).draw)).mono ?_)
          rintro e W9 ⟨rfl, hW9⟩
          refine ⟨_, rfl, _, fun _ h => h, by rw [hW9]; exact ey, ?_⟩
          rw [hW9]
          simp only [List.getElem_toArray, List.getElem_cons_zero, List.getElem_cons_succ, Act.put, List.setIfInBounds_toArray, List.set_cons_zero, List.set_cons_succ]
          refine wpX_f _ (.bool false) rfl rfl (fun X _ => by simp [go_sem]) ?_
          simp only [List.getElem_toArray, List.getElem_cons_zero, List.getElem_cons_succ, Act.put, List.setIfInBounds_toArray, List.set_cons_zero, List.set_cons_succ]
          refine wpX_f _ (.bool false) rfl rfl (fun X _ => by simp [go_sem]) ?_
          simp only [List.getElem_toArray, List.getElem_cons_zero, List.getElem_cons_succ, Act.put, List.setIfInBounds_toArray, List.set_cons_zero, List.set_cons_succ]
          refine wpX_nil ?_
          clear hC0 ey hW9
          have hPz := hideit (hP3.out.ext (Ext.refl W4).draw)
          have hEz := hideit (Ext.draw hE3.out)
          have hOz := hideit (hO3.out.ext (Ext.refl W4).draw)
          clear hP3 hE3 hO3
          go_wp2
          exact ⟨⟨k + 1, by omega, by go_num, l2, f2, bad2, by omega, hPz.out, hEz.out, hOz.out⟩, by simp [intOf]; omega⟩
        · by_cases q3 : K = 3
          · subst q3
            have kx := rzeros_all L x l' N f bad W2 hP2.out.x1 hl8
            obtain ⟨l2, hl2⟩ : ∃ l2, l2 = cL (gZ N bad l' f) N l' := ⟨_, rfl⟩
            obtain ⟨f2, hf2⟩ : ∃ f2, f2 = cF (gZ N bad l' f) N f := ⟨_, rfl⟩
            obtain ⟨bad2, hb2⟩ : ∃ bad2, bad2 = !(gZ N bad l' f) := ⟨_, rfl⟩
            have hl22 : l2 ≤ l' := by rw [hl2]; exact cL_le _ _ _
            rw [← hl2, ← hf2, ← hb2] at kx
            replace kx := hideit kx
            have ky := fun X (h : Rd M y l' f bad X) => rrzeros_all M y l' N f bad X h hl8
            rw [← hl2, ← hf2, ← hb2] at ky
            replace ky := hideit ky
            have hlob := hideit (World.block_lt_of_cell? _ _ e1)
            clear hl2 hf2 hb2
            go_upto_region 18 with (first
              | (go_at_call 16; refine kx.out.mono ?_; rintro e W3 ⟨rfl, hR3, hB3⟩; have ky3 := hideit (ky.out W3 (hP2.out.mid hB3)); have e13 := (hB3.cell ⟨ob, 1, none⟩ hlob.out (by have := hxb.out; show ob ≠ x; omega)).trans e1; replace hR3 := hideit hR3; replace hB3 := hideit hB3)
              | (go_at_call 17; refine ky3.out.mono ?_; rintro e W4 ⟨rfl, hR4, hB4⟩; replace hR4 := hideit hR4; replace hB4 := hideit hB4))
            have hP3 := hideit (hP2.out.step hB3.out hR3.out hB4.out hR4.out)
            have hE3 := hideit (Ext.but (Ext.but hE2.out hB3.out (by have := hL1.out; have := hxy.out; omega)) hB4.out (by have := hL1.out; have := hxy.out; omega))
            have hO3 := hideit ((hO2.out.but hB3.out (fun h => by have := hOb.out _ h; have := hxy.out; omega)).but hB4.out (fun h => by have := hOb.out _ h; have := hxy.out; omega))
            clear hP2 hE2 hO2 hR3 hR4 hB3 hB4 kx ky ky3 e13 hlob e0 e1
            obtain ⟨oy, cy, hAy, _⟩ := rd_cells hP3.out.y1
            have ey := hAy.bytes
            have hC0 : (fun X : World => X.cell? ⟨y, 0, none⟩ = some (.slice oy l2 cy)) W4.drew := ey
            clear hAy
            refine wp_region_lad (fun X : World => X.cell? ⟨y, 0, none⟩ = some (.slice oy l2 cy)) [(false, 0), (false, 1), (false, 2), (false, 3), (false, 5), (false, 6), (false, 7), (false, 8), (false, 9), (true, 4), (false, 10), (false, 11)] (by kernel_rfl) (by kernel_rfl) (by decide +kernel) (by decide +kernel) (by decide +kernel) (by decide +kernel) hC0 ?_
            refine wpX_f _ (.bool true) rfl rfl (fun X _ => by simp [go_sem]) ?_
            simp only [List.getElem_toArray, List.getElem_cons_zero, Act.put, List.setIfInBounds_toArray, List.set_cons_zero, List.set_cons_succ]
            refine wpX_f _ (.bool false) rfl rfl (fun X _ => by simp [go_sem]) ?_
            simp only [List.getElem_toArray, List.getElem_cons_zero, List.getElem_cons_succ, Act.put, List.setIfInBounds_toArray, List.set_cons_zero, List.set_cons_succ]
            refine wpX_f _ (.bool false) rfl rfl (fun X _ => by simp [go_sem]) ?_
            simp only [List.getElem_toArray, List.getElem_cons_zero, List.getElem_cons_succ, Act.put, List.setIfInBounds_toArray, List.set_cons_zero, List.set_cons_succ]
            refine wpX_f _ (.pointer (some ⟨x, 0, none⟩)) rfl rfl (fun X _ => by simp [go_sem]) ?_
            simp only [List.getElem_toArray, List.getElem_cons_zero, List.getElem_cons_succ, Act.put, List.setIfInBounds_toArray, List.set_cons_zero, List.set_cons_succ]
            refine wpX_f _ (.pointer (some ⟨y, 0, none⟩)) rfl rfl (fun X _ => by simp [go_sem]) ?_
            simp only [List.getElem_toArray, List.getElem_cons_zero, List.getElem_cons_succ, Act.put, List.setIfInBounds_toArray, List.set_cons_zero, List.set_cons_succ]
            refine wpX_f _ (.pointer (some ⟨y, 0, none⟩)) rfl rfl (fun X _ => by simp [go_sem]) ?_
            simp only [List.getElem_toArray, List.getElem_cons_zero, List.getElem_cons_succ, Act.put, List.setIfInBounds_toArray, List.set_cons_zero, List.set_cons_succ]
            refine wpX_f _ (.pointer (some ⟨y, 0, none⟩)) rfl rfl (fun X _ => by simp [go_sem]) ?_
            simp only [List.getElem_toArray, List.getElem_cons_zero, List.getElem_cons_succ, Act.put, List.setIfInBounds_toArray, List.set_cons_zero, List.set_cons_succ]
            refine wpX_f _ (.slice oy l2 cy) rfl rfl (fun X hX => by simp [go_sem, show X.cell? ⟨y, 0, none⟩ = some (.slice oy l2 cy) from hX]) ?_
            simp only [List.getElem_toArray, List.getElem_cons_zero, List.getElem_cons_succ, Act.put, List.setIfInBounds_toArray, List.set_cons_zero, List.set_cons_succ]
            refine wpX_f _ (.int .i64 (l2 : Int)) rfl rfl (fun X _ => by simp [go_sem]) ?_
            simp only [List.getElem_toArray, List.getElem_cons_zero, List.getElem_cons_succ, Act.put, List.setIfInBounds_toArray, List.set_cons_zero, List.set_cons_succ]
            refine wpX_call _ rfl rfl (by simp [go_sem]) ((rleft_any L x l2 f2 bad2 W4.drew (hP3.out.x1.ext (Ext.refl W4).draw)).mono ?_)
            rintro e W9 ⟨rfl, hW9⟩
            refine ⟨_, rfl, _, fun _ h => h, by rw [hW9]; exact ey, ?_⟩
            rw [hW9]
            simp only [List.getElem_toArray, List.getElem_cons_zero, List.getElem_cons_succ, Act.put, List.setIfInBounds_toArray, List.set_cons_zero, List.set_cons_succ]
            refine wpX_f _ (.bool false) rfl rfl (fun X _ => by simp [go_sem]) ?_
            simp only [List.getElem_toArray, List.getElem_cons_zero, List.getElem_cons_succ, Act.put, List.setIfInBounds_toArray, List.set_cons_zero, List.set_cons_succ]
            refine wpX_f _ (.bool false) rfl rfl (fun X _ => by simp [go_sem]) ?_
            simp only [List.getElem_toArray, List.getElem_cons_zero, List.getElem_cons_succ, Act.put, List.setIfInBounds_toArray, List.set_cons_zero, List.set_cons_succ]
            refine wpX_nil ?_
            clear hC0 ey hW9
            have hPz := hideit (hP3.out.ext (Ext.refl W4).draw)
            have hEz := hideit (Ext.draw hE3.out)
            have hOz := hideit (hO3.out.ext (Ext.refl W4).draw)
            clear hP3 hE3 hO3
            go_wp2
            exact ⟨⟨k + 1, by omega, by go_num, l2, f2, bad2, by omega, hPz.out, hEz.out, hOz.out⟩, by simp [intOf]; omega⟩
          · obtain ⟨l2, hl2⟩ : ∃ l2, l2 = l' := ⟨_, rfl⟩
            obtain ⟨f2, hf2⟩ : ∃ f2, f2 = f := ⟨_, rfl⟩
            obtain ⟨bad2, hb2⟩ : ∃ bad2, bad2 = bad := ⟨_, rfl⟩
            have hl22 : l2 ≤ l' := by omega
            have hP3 : Hid (PairR L x M y l2 f2 bad2 W2) := by rw [hl2, hf2, hb2]; exact hP2.out
            have hE3 := hE2
            have hO3 := hO2
            clear hl2 hf2 hb2 hP2 hE2 hO2
            go_upto_region 18 with (fail)
            obtain ⟨oy, cy, hAy, _⟩ := rd_cells hP3.out.y1
            have ey := hAy.bytes
            have hC0 : (fun X : World => X.cell? ⟨y, 0, none⟩ = some (.slice oy l2 cy)) W2.drew := ey
            clear hAy
            refine wp_region_lad (fun X : World => X.cell? ⟨y, 0, none⟩ = some (.slice oy l2 cy)) [(false, 0), (false, 1), (false, 2), (false, 3), (false, 5), (false, 6), (false, 7), (false, 8), (false, 9), (true, 4), (false, 10), (false, 11)] (by kernel_rfl) (by kernel_rfl) (by decide +kernel) (by decide +kernel) (by decide +kernel) (by decide +kernel) hC0 ?_
            refine wpX_f _ (.bool true) rfl rfl (fun X _ => by simp [go_sem]) ?_
            simp only [List.getElem_toArray, List.getElem_cons_zero, Act.put, List.setIfInBounds_toArray, List.set_cons_zero, List.set_cons_succ]
            refine wpX_f _ (.bool false) rfl rfl (fun X _ => by simp [go_sem]) ?_
            simp only [List.getElem_toArray, List.getElem_cons_zero, List.getElem_cons_succ, Act.put, List.setIfInBounds_toArray, List.set_cons_zero, List.set_cons_succ]
            refine wpX_f _ (.bool false) rfl rfl (fun X _ => by simp [go_sem]) ?_
            simp only [List.getElem_toArray, List.getElem_cons_zero, List.getElem_cons_succ, Act.put, List.setIfInBounds_toArray, List.set_cons_zero, List.set_cons_succ]
            refine wpX_f _ (.pointer (some ⟨x, 0, none⟩)) rfl rfl (fun X _ => by simp [go_sem]) ?_
            simp only [List.getElem_toArray, List.getElem_cons_zero, List.getElem_cons_succ, Act.put, List.setIfInBounds_toArray, List.set_cons_zero, List.set_cons_succ]
            refine wpX_f _ (.pointer (some ⟨y, 0, none⟩)) rfl rfl (fun X _ => by simp [go_sem]) ?_
            simp only [List.getElem_toArray, List.getElem_cons_zero, List.getElem_cons_succ, Act.put, List.setIfInBounds_toArray, List.set_cons_zero, List.set_cons_succ]
            refine wpX_f _ (.pointer (some ⟨y, 0, none⟩)) rfl rfl (fun X _ => by simp [go_sem]) ?_
            simp only [List.getElem_toArray, List.getElem_cons_zero, List.getElem_cons_succ, Act.put, List.setIfInBounds_toArray, List.set_cons_zero, List.set_cons_succ]
            refine wpX_f _ (.pointer (some ⟨y, 0, none⟩)) rfl rfl (fun X _ => by simp [go_sem]) ?_
            simp only [List.getElem_toArray, List.getElem_cons_zero, List.getElem_cons_succ, Act.put, List.setIfInBounds_toArray, List.set_cons_zero, List.set_cons_succ]
            refine wpX_f _ (.slice oy l2 cy) rfl rfl (fun X hX => by simp [go_sem, show X.cell? ⟨y, 0, none⟩ = some (.slice oy l2 cy) from hX]) ?_
            simp only [List.getElem_toArray, List.getElem_cons_zero, List.getElem_cons_succ, Act.put, List.setIfInBounds_toArray, List.set_cons_zero, List.set_cons_succ]
            refine wpX_f _ (.int .i64 (l2 : Int)) rfl rfl (fun X _ => by simp [go_sem]) ?_
            simp only [List.getElem_toArray, List.getElem_cons_zero, List.getElem_cons_succ, Act.put, List.setIfInBounds_toArray, List.set_cons_zero, List.set_cons_succ]
            refine wpX_call _ rfl rfl (by simp [go_sem]) ((rleft_any L x l2 f2 bad2 W2.drew (hP3.out.x1.ext (Ext.refl W2).draw)).mono ?_)
            rintro e W9 ⟨rfl, hW9⟩
            refine ⟨_, rfl, _, fun _ h => h, by rw [hW9]; exact ey, ?_⟩
            rw [hW9]
            simp only [List.getElem_toArray, List.getElem_cons_zero, List.getElem_cons_succ, Act.put, List.setIfInBounds_toArray, List.set_cons_zero, List.set_cons_succ]
            refine wpX_f _ (.bool false) rfl rfl (fun X _ => by simp [go_sem]) ?_
            simp only [List.getElem_toArray, List.getElem_cons_zero, List.getElem_cons_succ, Act.put, List.setIfInBounds_toArray, List.set_cons_zero, List.set_cons_succ]
            refine wpX_f _ (.bool false) rfl rfl (fun X _ => by simp [go_sem]) ?_
            simp only [List.getElem_toArray, List.getElem_cons_zero, List.getElem_cons_succ, Act.put, List.setIfInBounds_toArray, List.set_cons_zero, List.set_cons_succ]
            refine wpX_nil ?_
            clear hC0 ey hW9
            have hPz := hideit (hP3.out.ext (Ext.refl W2).draw)
            have hEz := hideit (Ext.draw hE3.out)
            have hOz := hideit (hO3.out.ext (Ext.refl W2).draw)
            clear hP3 hE3 hO3
            go_wp2
            exact ⟨⟨k + 1, by omega, by go_num, l2, f2, bad2, by omega, hPz.out, hEz.out, hOz.out⟩, by simp [intOf]; omega⟩
    · obtain rfl : k = n := by omega
      have k1 : ¬ (k : Int) < (k : Int) := by omega
      have hc1 := convV _ _ _ _ hO.out.bv
      have hc2 := convV _ _ _ _ (hB.out.ext hE.out)
      obtain ⟨d, hd⟩ : ∃ d : Int, d = dnI (bad || !zB f l') := ⟨_, rfl⟩
      have kx := rdone_any _ x l' f bad wr hP.out.x1 (by omega)
      have ky := rrdone_any _ y l' f bad wr hP.out.y1 (by omega)
      rw [← hd] at kx ky
      replace kx := hideit kx
      replace ky := hideit ky
      clear hd
      obtain ⟨str, hstr⟩ : ∃ str, str = bstr l (fun j => ((b j).toNat : Int)) := ⟨_, rfl⟩
      rw [← hstr] at hc1 hc2
      clear hstr
      go_upto_region 20 with (fail)
      refine wp_region_lit ?_
      refine wpList_run rfl (.pointer (some ⟨x, 0, none⟩)) (by simp [go_sem]) ?_
      simp only [Act.put, List.setIfInBounds_toArray, List.set_cons_zero, List.set_cons_succ]
      refine wpList_call rfl (by simp [go_sem]) (kx.out.mono ?_)
      rintro e w' ⟨rfl, hw'⟩
      refine ⟨_, rfl, ?_⟩
      rw [hw']
      clear hw'
      simp only [Act.put, List.setIfInBounds_toArray, List.set_cons_zero, List.set_cons_succ]
      refine wpList_run rfl (.pointer (some ⟨y, 0, none⟩)) (by simp [go_sem]) ?_
      simp only [Act.put, List.setIfInBounds_toArray, List.set_cons_zero, List.set_cons_succ]
      refine wpList_call rfl (by simp [go_sem]) (ky.out.mono ?_)
      rintro e w' ⟨rfl, hw'⟩
      refine ⟨_, rfl, ?_⟩
      rw [hw']
      clear hw'
      simp only [Act.put, List.setIfInBounds_toArray, List.set_cons_zero, List.set_cons_succ]
      refine wpList_run rfl (.bool true) (by simp [go_sem]) ?_
      simp only [Act.put, List.setIfInBounds_toArray, List.set_cons_zero, List.set_cons_succ]
      refine wpList_run rfl (.bool true) (by simp [go_sem]) ?_
      simp only [Act.put, List.setIfInBounds_toArray, List.set_cons_zero, List.set_cons_succ]
      refine wpList_runW rfl (.slice o1 l c1) (by simp [go_sem]) ?_
      simp only [Act.put, List.setIfInBounds_toArray, List.set_cons_zero, List.set_cons_succ]
      refine wpList_runW rfl (.string str) (by simp [go_sem, hc1]) ?_
      simp only [Act.put, List.setIfInBounds_toArray, List.set_cons_zero, List.set_cons_succ]
      refine wpList_runW rfl (.slice ov l cv) (by simp [go_sem]) ?_
      simp only [Act.put, List.setIfInBounds_toArray, List.set_cons_zero, List.set_cons_succ]
      refine wpList_runW rfl (.string str) (by simp [go_sem, hc2]) ?_
      simp only [Act.put, List.setIfInBounds_toArray, List.set_cons_zero, List.set_cons_succ]
      refine wpList_runW rfl (.bool true) (by simp [go_sem]) ?_
      simp only [Act.put, List.setIfInBounds_toArray, List.set_cons_zero, List.set_cons_succ]
      refine wpList_run rfl (.bool true) (by simp [go_sem]) ?_
      simp only [Act.put, List.setIfInBounds_toArray, List.set_cons_zero, List.set_cons_succ]
      clear hc1 hc2
      go_wp2
      go_ret
      exact ⟨rfl, hE.out⟩

set_option maxRecDepth 100000 in
theorem lifted (os : Os) (started : os.Started) (H : Type) (enc : TypeId × Value → H) :
    ReturnsInHanded {} Try.checked os 3 .any (Rows.codecReadsSpec.pre6 enc Try.prog Try.f3 Rows.codecReadsRow.domain false) (Rows.codecReadsSpec.post enc Try.prog Try.f3 false true false false) := by
  refine returnsInHanded_of_change_sized (C := Try.checked) own started (by kernel_rfl) Try.func3
    (ChangeSpec.witness6 (enc := enc) (C := Try.checked) false ⟨#[], #[.slice none 0 0, .slice none 0 0], []⟩ 8 (by kernel_rfl) (by kernel_rfl) (by kernel_rfl) (by kernel_rfl)) ?_
  intro W base args ds gs before hval0 hW hcnd hsz0 _
  have hsz := hsz0
  have hval : ∀ (j : Nat) t v, Try.f3.params[j]? = some t → args[j]? = some v → Value.okWide Try.prog W .any base t v := hval0
  have hW' := hW
  obtain ⟨p, q, hA0, hV, rfl, hfz, hnd⟩ := hW
  have hA : DataW.TrodAll enc Try.prog W 0 (fun _ => true) true Try.f3.params.toList args.toList ds p := hA0
  rw [Try.params3] at hA hval hsz
  obtain ⟨v0, vs0, d0, ds0, p0, q0, hargs, rfl, rfl, h0, r0⟩ := trodAll_cons hA
  obtain ⟨v1, vs1, d1, ds1, p1, q1, rfl, rfl, rfl, h1, r1⟩ := trodAll_cons r0
  obtain ⟨rfl, rfl, rfl⟩ := trodAll_nil r1
  obtain rfl : args = #[v0, v1] := by cases args; simp_all
  obtain ⟨rfl, rfl⟩ := trodVars_none hV
  have k0 := h0
  have lt0 : ∀ x ∈ p0, x.block < W.heap.size := by obtain ⟨m, hm⟩ := k0; exact DataW.trod_lt m _ _ _ hm
  have k1 := h1
  have lt1 : ∀ x ∈ p1, x.block < W.heap.size := by obtain ⟨m, hm⟩ := k1; exact DataW.trod_lt m _ _ _ hm
  have B0 := barg (hval 0 22 v0 rfl rfl) h0 hsz 0 rfl rfl
  have B1 := oarg (hval 1 23 v1 rfl rfl) h1
  clear hA0 hval0
  refine (walk v0 v1 W  B0  B1).mono fun e W' ⟨he, bel⟩ => ?_
  subst he
  exact ⟨_, rfl, _, _, _, [], _, [], hW', trodAll_mk1 (shut_bool Try.underlying4 _), (trodAll_cons_mk (Below.trod laidOut (by kernel_rfl) (of_decide_eq_true (by kernel_rfl)) k0 bel lt0) (trodAll_cons_mk (Below.trod laidOut (by kernel_rfl) (of_decide_eq_true (by kernel_rfl)) k1 bel lt1) trodAll_mk0)), rfl, bel.frame _, fun h => by cases h⟩

theorem over : Rows.codecReadsRow.holds Try.pinned (OpenSpec.ofChange Rows.codecReadsSpec) :=
  OpenClaim.holds_of_wide 3 Try.f3 rfl rfl rfl rfl rfl rfl rfl ⟨rfl, rfl, rfl, rfl, rfl⟩ rfl rfl rfl rfl rfl (by kernel_rfl) Try.func3 (by kernel_rfl)
    (of_decide_eq_true (by kernel_rfl)) (by unfold Func.isWrapper; first | (rw [if_pos (by decide +kernel)]; kernel_rfl) | (rw [if_neg (by decide +kernel)]; exact ⟨rfl, rfl⟩))
    (fun os started H enc _ => lifted os started H enc)
end Go.Proofs.Ytboncdlihgpepaa.codecReads
namespace Go.Proofs.Ytboncdlihgpepaa
theorem codecReads_holds : Rows.CodecReadsSaid := codecReads.over
end Go.Proofs.Ytboncdlihgpepaa
