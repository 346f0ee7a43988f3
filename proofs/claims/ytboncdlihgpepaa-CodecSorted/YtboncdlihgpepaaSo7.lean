/-
  The document's Sorted: Get.
-/
import Derived.Test.YtboncdlihgpepaaSo6
namespace Go.Proofs.Ytboncdlihgpepaa
open Go.RowKit Go.BigFrame Go.Maps Go.ChangeMaps Go.MapKept
set_option linter.unusedVariables false
open Go.Shelf Go.Lib Go.Sort
theorem inf90 : (Try.prog.info? 90).map (·.size) = some 2 := by kernel_rfl
theorem elem90 : ElemK Try.prog 61 90 2 24 := elem_k Try.underlying61 (by kernel_rfl) (by kernel_rfl) (by kernel_rfl)
/-- a slice that holds L, not in block xb -/
def DL (xb : Nat) (L : List KV) (v : Value) (w : World) : Prop := (v = .slice none 0 0 ∧ L = []) ∨ ∃ b cv, v = .slice (some ⟨b, 0, none⟩) L.length cv ∧ L.length ≤ cv ∧ b ≠ xb ∧ RowAt b (L.length * 2) (pV L) w
theorem DL.ext {xb : Nat} {L : List KV} {v : Value} {w X : World} (h : DL xb L v w) (k : Ext w X) : DL xb L v X := by
  rcases h with h | ⟨b, cv, h1, h2, h3, h4⟩
  · exact .inl h
  · exact .inr ⟨b, cv, h1, h2, h3, h4.carry k⟩
theorem DL.form {xb : Nat} {L : List KV} {v : Value} {w : World} (h : DL xb L v w) : ∃ ov cv, v = .slice ov L.length cv ∧ L.length ≤ cv ∧ (0 < L.length → ∃ b, ov = some ⟨b, 0, none⟩ ∧ b ≠ xb ∧ RowAt b (L.length * 2) (pV L) w) := by
  rcases h with ⟨h1, h2⟩ | ⟨b, cv, h1, h2, h3, h4⟩
  · subst h2
    exact ⟨none, 0, h1, Nat.le_refl _, fun h => by cases h⟩
  · exact ⟨_, cv, h1, h2, fun _ => ⟨b, rfl, h3, h4⟩⟩
/-- the document's Sorted -/
structure DcAt (xb : Nat) (L : List KV) (v : Value) (w : World) : Prop where
  row : RowAt xb 1 (fun _ => v) w
  sl : DL xb L v w
  ris : Ris L
theorem DcAt.ext {xb : Nat} {L : List KV} {v : Value} {w X : World} (h : DcAt xb L v w) (k : Ext w X) : DcAt xb L v X := ⟨h.row.carry k, h.sl.ext k, h.ris⟩
theorem pV_even (L : List KV) (m : Nat) : pV L (m * 2) = .int .i64 (L.getD m kd).1 := by
  unfold pV
  rw [show m * 2 % 2 = 0 by omega, show m * 2 / 2 = m by omega, if_pos rfl]
theorem pV_odd (L : List KV) (m : Nat) : pV L (m * 2 + 1) = .string (L.getD m kd).2 := by
  unfold pV
  rw [show (m * 2 + 1) % 2 = 1 by omega, show (m * 2 + 1) / 2 = m by omega, if_neg (by decide)]
theorem kget_at {L : List KV} (h : Ris L) {m : Nat} (hm : m < L.length) : kget L (L.getD m kd).1 = some (L.getD m kd).2 := by
  refine h.get ?_
  rw [List.getD_eq_getElem?_getD, List.getElem?_eq_getElem hm]
  exact List.getElem_mem hm
theorem kget_end {L : List KV} {x : Int} (h : ∀ j, j < L.length → (L.getD j kd).1 ≠ x) : kget L x = none := by
  refine kget_none.2 fun p hp => ?_
  obtain ⟨j, hj, rfl⟩ := List.mem_iff_getElem.1 hp
  have := h j hj
  rw [List.getD_eq_getElem?_getD, List.getElem?_eq_getElem hj] at this
  exact this
set_option maxRecDepth 20000 in
set_option maxHeartbeats 4000000 in
theorem rget_go {xb : Nat} {L : List KV} {v : Value} {w : World} (h : DcAt xb L v w) (hle : L.length ≤ 4398046511104) (x : Int) : Calls Try.prog 36 #[.pointer (some ⟨xb, 0, none⟩), .int .i64 x] w fun e w' => e = .returned (.tuple #[.string ((kget L x).getD ByteArray.empty), .bool (kget L x).isSome]) ∧ w' = w := by
  obtain ⟨ov, cv, hv, hlc, hbb⟩ := h.sl.form
  subst hv
  have hC := hideit h.row
  have hri := hideit h.ris
  replace hbb := hideit hbb
  clear h
  go_enter Try.func36, Try.ntmps36
  go_upto_region 0 with (fail)
  refine wp_region_lit ?_
  refine xm [some (.string { data := #[] }), some (.bool false)] (by kernel_rfl) (by simp [xr, go_sem]) ?_
  simp only [xw, p0, p1, p2, p3]
  go_upto_region 1 with (fail)
  refine wp_region_lit ?_
  refine xm [some (.int .i64 0)] (by kernel_rfl) (by simp [xr, go_sem]) ?_
  simp only [xw, p0, p1, p2, p3]
  go_wp2
  go_loopw [6] (fun iv X => ∃ m : Nat, m ≤ L.length ∧ iv = .int .i64 (m : Int) ∧ X = w ∧ ∀ j, j < m → (L.getD j kd).1 ≠ x) (fun iv _ => L.length - (intOf iv).toNat)
  case atStart => exact ⟨0, Nat.zero_le _, rfl, rfl, fun j hj => by omega⟩
  case round =>
    obtain ⟨m, hm, rfl, rfl, hno⟩ := hrel
    replace hno := hideit hno
    by_cases hlt : m < L.length
    · have i1 : (m : Int) < (L.length : Int) := by omega
      obtain ⟨b, rfl, hbx, hb⟩ := hbb.out (by omega)
      replace hb := hideit hb
      obtain ⟨p, hp⟩ : ∃ p, L.getD m kd = p := ⟨_, rfl⟩
      have b0 : wr.cell? ⟨b, m * 2, none⟩ = some (.int .i64 p.1) := by rw [hb.out.1 (m * 2) (by omega), pV_even, hp]
      have b1 : wr.cell? ⟨b, m * 2 + 1, none⟩ = some (.string p.2) := by rw [hb.out.1 (m * 2 + 1) (by omega), pV_odd, hp]
      replace hp := hideit hp
      go_upto_region 2 with (fail)
      refine wp_region_lit ?_
      have m1 : wr.cell? ⟨xb, 0, none⟩ = some (.slice (some ⟨b, 0, none⟩) L.length cv) := hC.out.1 0 (by decide)
      refine xm [some (.int .i64 (m : Int)), some (.pointer (some ⟨xb, 0, none⟩)), some (.pointer (some ⟨xb, 0, none⟩)), some (.pointer (some ⟨xb, 0, none⟩)), some (.slice (some ⟨b, 0, none⟩) L.length cv), some (.int .i64 (L.length : Int)), some (.bool true)] (by kernel_rfl) (by simp [xr, go_sem, m1, i1]) ?_
      simp only [xw, p0, p1, p2, p3]
      clear m1
      by_cases hq : p.1 = x
      · go_upto_region 4 with (fail)
        refine wp_region_lit ?_
        have m2 : wr.cell? ⟨xb, 0, none⟩ = some (.slice (some ⟨b, 0, none⟩) L.length cv) := hC.out.1 0 (by decide)
        refine xm [some (.pointer (some ⟨xb, 0, none⟩)), some (.pointer (some ⟨xb, 0, none⟩)), some (.pointer (some ⟨xb, 0, none⟩)), some (.slice (some ⟨b, 0, none⟩) L.length cv), some (.int .i64 (m : Int))] (by kernel_rfl) (by simp [xr, go_sem, m2]) ?_
        simp only [xw, p0, p1, p2, p3]
        clear m2
        refine xm [some (.pointer (some ⟨b, m * 2, none⟩))] (by kernel_rfl) (by simp [xr, go_sem, i1]) ?_
        simp only [xw, p0, p1, p2, p3]
        refine xm [some (.pointer (some ⟨b, m * 2, none⟩))] (by kernel_rfl) (by simp [xr, go_sem]) ?_
        simp only [xw, p0, p1, p2, p3]
        refine xm [some (.int .i64 (p.1)), some (.int .i64 (x)), some (.bool true)] (by kernel_rfl) (by simp [xr, go_sem, b0, hq]) ?_
        simp only [xw, p0, p1, p2, p3]
        go_upto_region 5 with (fail)
        refine wp_region_lit ?_
        have m3 : wr.cell? ⟨xb, 0, none⟩ = some (.slice (some ⟨b, 0, none⟩) L.length cv) := hC.out.1 0 (by decide)
        refine xm [some (.pointer (some ⟨xb, 0, none⟩)), some (.pointer (some ⟨xb, 0, none⟩)), some (.pointer (some ⟨xb, 0, none⟩)), some (.slice (some ⟨b, 0, none⟩) L.length cv), some (.int .i64 (m : Int))] (by kernel_rfl) (by simp [xr, go_sem, m3]) ?_
        simp only [xw, p0, p1, p2, p3]
        clear m3
        refine xm [some (.pointer (some ⟨b, m * 2, none⟩))] (by kernel_rfl) (by simp [xr, go_sem, i1]) ?_
        simp only [xw, p0, p1, p2, p3]
        refine xm [some (.pointer (some ⟨b, m * 2 + 1, none⟩))] (by kernel_rfl) (by simp [xr, go_sem]) ?_
        simp only [xw, p0, p1, p2, p3]
        refine xm [some (.string p.2), some (.string p.2), some (.bool true)] (by kernel_rfl) (by simp [xr, go_sem, b1]) ?_
        simp only [xw, p0, p1, p2, p3]
        go_wp2
        refine bodyPost_ret (res2 rfl _ _ _) rfl ?_
        refine ⟨?_, rfl⟩
        have e := kget_at hri.out hlt
        rw [hp.out, hq] at e
        rw [e]
        rfl
      · go_upto_region 4 with (fail)
        refine wp_region_lit ?_
        have m2 : wr.cell? ⟨xb, 0, none⟩ = some (.slice (some ⟨b, 0, none⟩) L.length cv) := hC.out.1 0 (by decide)
        refine xm [some (.pointer (some ⟨xb, 0, none⟩)), some (.pointer (some ⟨xb, 0, none⟩)), some (.pointer (some ⟨xb, 0, none⟩)), some (.slice (some ⟨b, 0, none⟩) L.length cv), some (.int .i64 (m : Int))] (by kernel_rfl) (by simp [xr, go_sem, m2]) ?_
        simp only [xw, p0, p1, p2, p3]
        clear m2
        refine xm [some (.pointer (some ⟨b, m * 2, none⟩))] (by kernel_rfl) (by simp [xr, go_sem, i1]) ?_
        simp only [xw, p0, p1, p2, p3]
        refine xm [some (.pointer (some ⟨b, m * 2, none⟩))] (by kernel_rfl) (by simp [xr, go_sem]) ?_
        simp only [xw, p0, p1, p2, p3]
        refine xm [some (.int .i64 (p.1)), some (.int .i64 (x)), some (.bool false)] (by kernel_rfl) (by simp [xr, go_sem, b0, hq]) ?_
        simp only [xw, p0, p1, p2, p3]
        go_wp2
        exact ⟨⟨m + 1, by omega, by go_num, by simp, fun j hj => by
          by_cases e : j = m
          · rw [e, hp.out]; exact hq
          · exact hno.out j (by omega)⟩, by simp [intOf]; omega⟩
    · have i1 : ¬ (m : Int) < (L.length : Int) := by omega
      go_upto_region 2 with (fail)
      refine wp_region_lit ?_
      have m1 : wr.cell? ⟨xb, 0, none⟩ = some (.slice ov L.length cv) := hC.out.1 0 (by decide)
      refine xm [some (.int .i64 (m : Int)), some (.pointer (some ⟨xb, 0, none⟩)), some (.pointer (some ⟨xb, 0, none⟩)), some (.pointer (some ⟨xb, 0, none⟩)), some (.slice ov L.length cv), some (.int .i64 (L.length : Int)), some (.bool false)] (by kernel_rfl) (by simp [xr, go_sem, m1, i1]) ?_
      simp only [xw, p0, p1, p2, p3]
      clear m1
      go_upto_region 6 with (fail)
      refine wp_region_lit ?_
      refine xm [some (.string { data := #[] }), some (.bool false)] (by kernel_rfl) (by simp [xr, go_sem]) ?_
      simp only [xw, p0, p1, p2, p3]
      go_wp2
      refine bodyPost_ret (res2 rfl _ _ _) rfl ?_
      refine ⟨?_, rfl⟩
      have e : m = L.length := by omega
      rw [kget_end (x := x) (fun j hj => hno.out j (by omega))]
      rfl
end Go.Proofs.Ytboncdlihgpepaa
