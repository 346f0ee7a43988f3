/-
  Read.
-/
import Derived.Test.YtcipkfalnjgghaaMd7
namespace Go.Proofs.Ytcipkfalnjgghaa
open Go.RowKit Go.BigFrame Go.Maps
set_option linter.unusedVariables false
theorem Ext.keeps {w x y : World} {G : Nat → Prop} (hE : Ext w x) (K : Keeps G x y) (hG : ∀ i, G i → w.heap.size ≤ i) : Ext w y :=
  ⟨K.os.trans (Below.os hE), K.tape.trans (Below.tape hE), K.output.trans (Below.output hE), Nat.le_trans (Below.size hE) K.size, fun i hi => (K.block i (Nat.lt_of_lt_of_le hi (Below.size hE)) fun e => by have := hG i e; omega).trans (Below.block hE i hi)⟩
/-- what Read's step tells -/
def RdP (s : MSt) (n : Int) (B : Nat) (v : Value) (c : Int) (W : World) : Prop := (c = 100 ∧ ¬ (0 ≤ n ∧ n < s.h.se) ∧ v = .slice none 0 0) ∨ (c = 0 ∧ (0 ≤ n ∧ n < s.h.se) ∧ ∃ z, v = .slice (some ⟨z, 0, none⟩) 512 512 ∧ B ≤ z ∧ RowAt z 512 (yv (rdF s n)) W)
theorem RdP.keep {s : MSt} {n : Int} {B : Nat} {v : Value} {c : Int} {W Y : World} {G : Nat → Prop} (h : RdP s n B v c W) (K : Keeps G W Y) (hG : ∀ i, G i → i < B) : RdP s n B v c Y := by
  rcases h with h | ⟨h1, h2, z, h3, h4, h5⟩
  · exact .inl h
  · exact .inr ⟨h1, h2, z, h3, h4, h5.keep K fun e => by have := hG z e; omega⟩
theorem RdP.low {s : MSt} {n : Int} {B B' : Nat} {v : Value} {c : Int} {W : World} (h : RdP s n B v c W) (hB : B' ≤ B) : RdP s n B' v c W := by
  rcases h with h | ⟨h1, h2, z, h3, h4, h5⟩
  · exact .inl h
  · exact .inr ⟨h1, h2, z, h3, Nat.le_trans hB h4, h5⟩
theorem RdP.ext {s : MSt} {n : Int} {B : Nat} {v : Value} {c : Int} {W Y : World} (h : RdP s n B v c W) (K : Ext W Y) : RdP s n B v c Y := by
  rcases h with h | ⟨h1, h2, z, h3, h4, h5⟩
  · exact .inl h
  · exact .inr ⟨h1, h2, z, h3, h4, h5.carry K⟩
theorem rd1_any {F : Nat → Prop} {p C : Nat} {M : MLoc} {w : World} (s : MSt) (hM : MdM F p s C M w) (bm bn : Nat) (n : Int) (hm : RowAt bm 1 (fun _ => .pointer (some ⟨p, 0, none⟩)) w) (hn : RowAt bn 1 (fun _ => .int .i64 n) w) (hok : okI n) : Calls Try.prog 24 #[.pointer (some ⟨bm, 0, none⟩), .pointer (some ⟨bn, 0, none⟩)] w fun e w' => ∃ vo vl vk c, e = .returned (.tuple #[.slice vo vl vk, .int .i64 c]) ∧ RdP s n w.heap.size (.slice vo vl vk) c w' ∧ Ext w w' := by
  by_cases hr : 0 ≤ n ∧ n < s.h.se
  · exact (rd1_ok s hM bm bn n hm hn hr hok).mono fun e w' ⟨z, h1, h2, h3, h4⟩ => ⟨_, _, _, 0, h1, .inr ⟨rfl, hr, z, rfl, h2, h3⟩, h4⟩
  · exact (rd1_no s hM bm bn n hm hn hr).mono fun e w' ⟨h1, h2⟩ => ⟨_, _, _, 100, h1, .inl ⟨rfl, hr, rfl⟩, h2⟩
set_option maxRecDepth 20000 in
set_option maxHeartbeats 4000000 in
theorem t58_any {F : Nat → Prop} {p C : Nat} {M : MLoc} {w : World} (s : MSt) (hM : MdM F p s C M w) (bm bn : Nat) (n : Int) (hm : RowAt bm 1 (fun _ => .pointer (some ⟨p, 0, none⟩)) w) (hn : RowAt bn 1 (fun _ => .int .i64 n) w) (hok : okI n) (cs d : Nat) (hc : RowAt cs 1 (fun _ => .func (.func 24) #[] #[.pointer (some ⟨bm, 0, none⟩), .pointer (some ⟨bn, 0, none⟩)]) w) (hd : RowAt d 1 (fun _ => .slice none 0 0) w) (ncs : cs ≠ d) (nbm : bm ≠ d) (nbn : bn ≠ d) : Calls Try.prog 58 #[.pointer (some ⟨cs, 0, none⟩), .pointer (some ⟨d, 0, none⟩)] w fun e w' => ∃ vo vl vk c, e = .returned (.int .i64 c) ∧ RdP s n w.heap.size (.slice vo vl vk) c w' ∧ Keeps (fun i => i = d) w w' ∧ RowAt d 1 (fun _ => .slice vo vl vk) w' := by
  have hdl := hideit hd.2.2
  replace hM := hideit hM
  replace hm := hideit hm
  replace hn := hideit hn
  replace hok := hideit hok
  replace hc := hideit hc
  replace hd := hideit hd
  replace ncs := hideit ncs
  replace nbm := hideit nbm
  replace nbn := hideit nbn
  have hE := hideit (Keeps.refl (fun i => i = d) w)
  go_enter Try.func58, Try.ntmps58
  go_upto_region 1 with (fail)
  refine wp_region_lit ?_
  have m1 : w.cell? ⟨cs, 0, none⟩ = some (.func (.func 24) #[] #[.pointer (some ⟨bm, 0, none⟩), .pointer (some ⟨bn, 0, none⟩)]) := hc.out.1 0 (by decide)
  refine xm [some (.func (.func 24) #[] #[.pointer (some ⟨bm, 0, none⟩), .pointer (some ⟨bn, 0, none⟩)])] (by kernel_rfl) (by simp [xr, go_sem, m1]) ?_
  simp only [xw, p0, p1, p2, p3]
  clear m1
  refine wpList_call rfl (by simp [go_sem]) ((rd1_any s hM.out bm bn n hm.out hn.out hok.out).mono ?_)
  rintro e y1 ⟨vo, vl, vk, c, rfl, hP, hX1⟩
  replace hP := hideit hP
  refine ⟨_, rfl, ?_⟩
  simp only [Act.put, List.setIfInBounds_toArray, List.set_cons_zero, List.set_cons_succ]
  replace hc := hideit (hc.out.carry hX1)
  replace hd := hideit (hd.out.carry hX1)
  replace hm := hideit (hm.out.carry hX1)
  replace hn := hideit (hn.out.carry hX1)
  replace hM := hideit (hM.out.ext hX1)
  replace hE := hideit (Keeps.ext hE.out (hX1))
  clear hX1
  clear hM
  refine xm [some (.tuple #[.slice vo vl vk, .int .i64 (c)]), some (.slice vo vl vk), some (.int .i64 (c))] (by kernel_rfl) (by simp [xr, go_sem]) ?_
  simp only [xw, p0, p1, p2, p3]
  have M0 : y1.cell? ⟨d, 0, none⟩ = some (.slice none 0 0) := hd.out.1 0 (by decide)
  have M1 : y1.frozen? ⟨d, 0, none⟩ = false := hd.out.2.1 0 (by decide)
  have N0 := hideit (hd.out.set 0 (.slice vo vl vk))
  have NE := hideit (hE.out.setCell (p := ⟨d, 0, none⟩) (.inl rfl) (.slice vo vl vk))
  refine xst rfl (y1.setCell ⟨d, 0, none⟩ (.slice vo vl vk)) (by simp [go_sem, M0, M1]) ?_
  simp only [Act.put]
  have hP9 := hideit (hP.out.keep ((Keeps.refl (fun i => i = d) y1).setCell (p := ⟨d, 0, none⟩) (.inl rfl) (.slice vo vl vk)) (fun i e => by rw [e]; exact hdl.out))
  generalize y1.setCell ⟨d, 0, none⟩ (.slice vo vl vk) = x2 at N0 NE hP9 ⊢
  clear M0 M1
  replace N0 := hideit (N0.out.congr (g' := fun _ => .slice vo vl vk) (fun j hj => by rw [if_pos (by omega)]))
  replace hd := N0
  replace hE := NE
  clear N0 NE
  refine xm [some (.int .i64 (c))] (by kernel_rfl) (by simp [xr, go_sem]) ?_
  simp only [xw, p0, p1, p2, p3]
  go_upto_region 2 with (fail)
  refine wp_region_lit ?_
  refine xm [some (.int .i64 (c)), some (.int .i64 (c))] (by kernel_rfl) (by simp [xr, go_sem]) ?_
  simp only [xw, p0, p1, p2, p3]
  go_wp2
  go_ret
  exact ⟨vo, vl, vk, c, rfl, hP9.out, hE.out, hd.out⟩
end Go.Proofs.Ytcipkfalnjgghaa
