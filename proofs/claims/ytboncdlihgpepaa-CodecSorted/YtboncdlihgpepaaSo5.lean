/-
  The entries of a Sorted.
-/
import Derived.Test.YtboncdlihgpepaaSo4
namespace Go.Proofs.Ytboncdlihgpepaa
open Go.RowKit Go.BigFrame Go.Maps Go.ChangeMaps Go.MapKept
set_option linter.unusedVariables false
open Go.Shelf Go.Lib Go.Sort
set_option maxRecDepth 20000 in
set_option maxHeartbeats 4000000 in
theorem entries_go {sb mb : Nat} {L : List KV} {w : World} (h : SoAt sb mb L w) (hle : L.length ≤ 4398046511104) : Calls Try.prog 49 #[.pointer (some ⟨sb, 0, none⟩)] w fun e w' => ∃ o cap, e = .returned (.slice o L.length cap) ∧ Ext w w' ∧ (L = [] ∨ ∃ b, o = some ⟨b, 0, none⟩ ∧ w.heap.size ≤ b ∧ RowAt b (L.length * 2) (pV L) w') := by
  have hlen := hideit (len_go h)
  have hri := hideit h.map.ris
  have hky := hideit h.map.keys
  replace hle := hideit hle
  have hS := hideit h.row
  have hM := hideit h.map
  have hne := h.ne
  clear h
  go_enter Try.func49, Try.ntmps49
  go_upto_region 0 with (fail)
  refine wp_region_lit ?_
  refine xm [some (.slice none 0 0)] (by kernel_rfl) (by simp [xr, go_sem]) ?_
  simp only [xw, p0, p1, p2, p3]
  go_upto_region 1 with (fail)
  refine wp_region_lit ?_
  refine xm [some (.pointer (some ⟨sb, 0, none⟩))] (by kernel_rfl) (by simp [xr, go_sem]) ?_
  simp only [xw, p0, p1, p2, p3]
  refine wpList_call rfl (by simp [go_sem]) ((hlen.out).mono ?_)
  rintro e yy ⟨rfl, hyy⟩
  refine ⟨_, rfl, ?_⟩
  simp only [Act.put, List.setIfInBounds_toArray, List.set_cons_zero, List.set_cons_succ]
  replace hyy := hyy.symm
  subst hyy
  obtain ⟨ie, ze, e1, e2, e3, e4, e5⟩ := elem88.info
  refine wpList_make_own w rfl (.const (.int .i64 0)) (.tmp 7) 85 rfl w.heap.size 88 ie ze 2 elem88.slice e1 e2 e3 .i64 .i64 _ L.length rfl rfl rfl (by have := hle.out; rw [e4]; omega) (by have := hle.out; unfold maxLen; omega) (Nat.le_refl _) ?_
  intro x1 hO1 hg1
  obtain ⟨bk, ebk⟩ : ∃ b, b = w.heap.size := ⟨_, rfl⟩
  have hO2 : Hid (OwnK 2 w.heap.size 88 (.slice (some ⟨bk, 0, none⟩) 0 L.length) 0 (pV []) x1) := by rw [ebk]; unfold OwnK; rw [Nat.zero_mul]; exact hO1
  have hX1 : Hid (Ext w x1) := below_grown (Nat.le_refl _) hg1 fun k hk => by cases hk
  rw [← ebk]
  clear hO1 hg1 e1 e2 e3 e4 e5
  simp only [Act.put, List.setIfInBounds_toArray, List.set_cons_zero, List.set_cons_succ]
  replace hS := hideit (hS.out.carry hX1.out)
  replace hM := hideit (hM.out.ext hX1.out)
  refine xm [some (.slice (some ⟨bk, 0, none⟩) 0 L.length)] (by kernel_rfl) (by simp [xr, go_sem]) ?_
  simp only [xw, p0, p1, p2, p3]
  go_upto_region 2 with (fail)
  refine wp_region_lit ?_
  refine xm [some (.pointer (some ⟨sb, 0, none⟩)), some (.bool false)] (by kernel_rfl) (by simp [xr, go_sem]) ?_
  simp only [xw, p0, p1, p2, p3]
  go_upto_region 4 with (fail)
  refine wp_region_lit ?_
  have m1 : x1.cell? ⟨sb, 0, none⟩ = some (.map (some mb)) := hS.out.1 0 (by decide)
  refine xm [some (.pointer (some ⟨sb, 0, none⟩)), some (.pointer (some ⟨sb, 0, none⟩)), some (.pointer (some ⟨sb, 0, none⟩)), some (.map (some mb))] (by kernel_rfl) (by simp [xr, go_sem, m1]) ?_
  simp only [xw, p0, p1, p2, p3]
  clear m1
  obtain ⟨x2, hrr, hR2, hg2⟩ := hM.out.range
  have hX2 : Ext x1 x2 := below_grown (Nat.le_refl _) hg2 fun k hk => by cases hk
  have hI0 : Hid (EnW w mb L x1.heap.size (.slice (some ⟨bk, 0, none⟩) 0 L.length) [] (fun x => (kvm L x).isSome) L.length x2) := ⟨hO2.out.ext hX2, hR2, Below.size hX1.out, Ext.trans hX1.out hX2, by simp, (fun p hp => by cases hp), .nil, (fun x hx hl hs => by rw [kvm_some] at hl; rw [hl] at hs; cases hs), fun p hp => by cases hp⟩
  have hmb := hideit hM.out.lt
  refine wpList_to rfl (.pointer (some ⟨x1.heap.size, 0, none⟩)) x2 (exec_range (.tmp 15) rfl rfl hrr) ?_
  simp only [Act.put, List.setIfInBounds_toArray, List.set_cons_zero, List.set_cons_succ]
  clear hrr hR2 hg2 hX2 hO2 hM hS
  obtain ⟨r, er⟩ : ∃ r, r = x1.heap.size := ⟨_, rfl⟩
  rw [← er] at hI0 ⊢
  clear er
  refine wpList_nil ?_
  go_wp2
  go_loopw [3] (fun lv X => ∃ ls left cnt, EnW w mb L r lv ls left cnt X) (fun _ X => X.rangeLeft mb r)
  case atStart => exact ⟨_, _, _, hI0.out⟩
  case round =>
    obtain ⟨ls, left, cnt, hI⟩ := hrel
    obtain ⟨yo, yc, rfl⟩ := hI.own.form
    have hris := hideit hri
    rcases hI.rg.next Try.underlying3 0 with ⟨hdone, hrn⟩ | ⟨x, v, w2, cnt', hx, hlx, hmx, hrn, hR2, hcl, hg2, hs2, hen⟩
    · have hno : ∀ y, okI y → (kget L y).isSome → ∃ p ∈ ls, p.1 = y := fun y hy hs => hI.lf y hy (hdone y hy) hs
      have hm : ∀ p, p ∈ ls ↔ p ∈ L := fun p => ⟨hI.mem p, fun hp => by
        obtain ⟨q, hq, e⟩ := hno p.1 (hky.out p hp) (by rw [hris.out.get (show (p.1, p.2) ∈ L from hp)]; rfl)
        have e2 : kget L p.1 = some p.2 := hris.out.get (show (p.1, p.2) ∈ L from hp)
        have e3 : kget L q.1 = some q.2 := hris.out.get (show (q.1, q.2) ∈ L from hI.mem q hq)
        rw [e, e2] at e3
        have e4 : p = q := Prod.ext e.symm (Option.some.inj e3)
        rw [e4]
        exact hq⟩
      have ksr := hideit (sort_kv hI.own hI.ext hris.out (by have := hI.few; have := hle.out; omega) hI.nd hm)
      clear hI hI0 hno hm
      go_upto_region 5 with (fail)
      refine wp_region_lit ?_
      refine wpList_to rfl (.tuple #[.bool false]) wr (exec_next (.tmp 16) rfl rfl hrn) ?_
      simp only [Act.put, List.setIfInBounds_toArray, List.set_cons_zero, List.set_cons_succ]
      refine xm [some (.bool false)] (by kernel_rfl) (by simp [xr, go_sem]) ?_
      simp only [xw, p0, p1, p2, p3]
      clear hrn hdone
      go_upto_region 8 with (fail)
      refine wp_region_lit ?_
      refine xm [some (.slice yo ls.length yc)] (by kernel_rfl) (by simp [xr, go_sem]) ?_
      simp only [xw, p0, p1, p2, p3]
      refine wpList_call rfl (by simp [go_sem]) ((ksr.out).mono ?_)
      rintro e w5 ⟨rfl, hX5, hl5, hP5⟩
      refine ⟨_, rfl, ?_⟩
      simp only [Act.put, List.setIfInBounds_toArray, List.set_cons_zero, List.set_cons_succ]
      replace hX5 := hideit hX5
      replace hP5 := hideit hP5
      replace hl5 := hideit hl5
      go_upto_region 9 with (fail)
      refine wp_region_lit ?_
      refine xm [some (.slice yo ls.length yc), some (.slice yo ls.length yc)] (by kernel_rfl) (by simp [xr, go_sem]) ?_
      simp only [xw, p0, p1, p2, p3]
      go_wp2
      go_ret
      exact ⟨yo, yc, by rw [hl5.out]; rfl, hX5.out, by rcases hP5.out with h | ⟨b, cap, h1, h2, h3⟩; exact .inl h; exact .inr ⟨b, by injection h1, h2, h3⟩⟩
    · obtain ⟨t, ht, rfl⟩ : ∃ t, kget L x = some t ∧ v = .string t := by
        unfold kvm at hmx
        cases hg : kget L x with
        | none => rw [hg] at hmx; cases hmx
        | some t => rw [hg] at hmx; exact ⟨t, rfl, (Option.some.inj hmx).symm⟩
      have hle2 : ls.length + 1 ≤ 4398046511104 := by have := hI.few; have := hle.out; omega
      have hE2 : Ext w w2 := Ext.but hI.ext hg2 hI.rn
      have hX3 : Ext w2 (w2.alloc (.cells #[.int .i64 x, .string t] 88)) := (Below.refl _ _).alloc (Nat.le_refl _) _
      have hO2 := hI.own.kept hg2 (.inr (own_range_ne hI.own hI.rg))
      have hO3 := hO2.ext hX3
      have hlie : LieAt ⟨w2.heap.size, 0, none⟩ (1 * 2) (pV [(x, t)]) (w2.alloc (.cells #[.int .i64 x, .string t] 88)) := RowAt.lie (RowAt.newOf w2 2 _ 88 _ fun j hj => by
        rcases (by omega : j = 0 ∨ j = 1) with rfl | rfl <;> rfl) 2 (Nat.le_refl _)
      have hR3 : RangeAt Try.prog 3 mb r L.length (kvm L) (fun y => left y && !decide (y = x)) cnt' (w2.alloc (.cells #[.int .i64 x, .string t] 88)) := hR2.kept (row := none) (World.grownBy_alloc _ _ _) (by simp) (by simp)
      have hE3 := Ext.trans hE2 hX3
      have hme0 := hideit hI.rg.left_eq
      replace hcl := hideit hcl
      replace hI := hideit hI
      clear hI0 hmx
      go_upto_region 5 with (fail)
      refine wp_region_lit ?_
      refine wpList_to rfl (.tuple #[.bool true, .int .i64 (x), .string t]) w2 (exec_next (.tmp 16) rfl rfl hrn) ?_
      simp only [Act.put, List.setIfInBounds_toArray, List.set_cons_zero, List.set_cons_succ]
      refine xm [some (.bool true)] (by kernel_rfl) (by simp [xr, go_sem]) ?_
      simp only [xw, p0, p1, p2, p3]
      go_upto_region 6 with (fail)
      refine wp_region_lit ?_
      refine wpList_run rfl (.tuple #[.int .i64 (x), .string t]) (exec_entry (.tmp 16) rfl rfl hen) ?_
      simp only [Act.put, List.setIfInBounds_toArray, List.set_cons_zero, List.set_cons_succ]
      refine xm [some (.int .i64 (x)), some (.string t), some (.int .i64 (x)), some (.string t)] (by kernel_rfl) (by simp [xr, go_sem]) ?_
      simp only [xw, p0, p1, p2, p3]
      clear hrn hen
      go_upto_region 7 with (fail)
      refine wp_region_lit ?_
      refine xm [some (.slice yo ls.length yc), some (.int .i64 (x)), some (.string t)] (by kernel_rfl) (by simp [xr, go_sem]) ?_
      simp only [xw, p0, p1, p2, p3]
      refine xm [some (.agg #[.int .i64 x, .string t])] (by kernel_rfl) (by simp [xr, go_sem]) ?_
      simp only [xw, p0, p1, p2, p3]
      refine wpList_to rfl (.slice (some ⟨w2.heap.size, 0, none⟩) 1 1) (w2.alloc (.cells #[.int .i64 x, .string t] 88)) (by simp [go_sem]) ?_
      simp only [Act.put, List.setIfInBounds_toArray, List.set_cons_zero, List.set_cons_succ]
      generalize w2.alloc (.cells #[.int .i64 x, .string t] 88) = w3 at *
      refine wpList_growK (n := ls.length) (base := w.heap.size) elem88 (by decide) rfl (.tmp 22) (.tmp 26) rfl rfl hO3 ⟨w2.heap.size, 0, none⟩ 1 1 _ (pV (ls ++ [(x, t)])) rfl hlie (fun j hj => pV_one _ j) (fun j hj => pV_left ls [(x, t)] hj) (fun j hj => pV_right ls [(x, t)] j) (by omega) (by omega) (Below.size hE3) ?_
      intro v4 w4 hO4 hg4
      have hE4 : Ext w w4 := Below.trans hE3 (below_grown (Below.size hE3) hg4 fun b hb => (hO3.lt b hb).1)
      have hR4 := hR3.kept hg4 (fun e => own_map_ne hO3 hR3.map e.symm) (fun e => own_range_ne hO3 hR3 e.symm)
      have hme := hideit hR4.left_eq
      have hI4 := hideit (hI.out.next hlx ht hcl.out hE4 hR4 hO4)
      simp only [Act.put, List.setIfInBounds_toArray, List.set_cons_zero, List.set_cons_succ]
      clear hO4 hg4 hE4 hR4 hO3 hlie hO2 hE2 hE3 hX3 hR2 hR3 hg2 hs2 hlx hx ht
      obtain ⟨zo, zc, rfl⟩ := hI4.out.own.form
      refine xm [some (.slice zo (ls.length + 1) zc)] (by kernel_rfl) (by simp [xr, go_sem]) ?_
      simp only [xw, p0, p1, p2, p3]
      go_wp2
      exact ⟨⟨_, _, _, by have e := hI4.out; rw [List.length_append] at *; exact e⟩, by rw [hme.out, hme0.out]; exact hcl.out⟩
end Go.Proofs.Ytboncdlihgpepaa
