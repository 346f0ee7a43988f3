/-
  Write.
-/
import Derived.Test.YtcipkfalnjgghaaMd5
namespace Go.Proofs.Ytcipkfalnjgghaa
open Go.RowKit Go.BigFrame Go.Maps
set_option linter.unusedVariables false
def wrE (s : MSt) (n : Int) (l : Nat) : Int := if 0 ≤ n ∧ n < s.h.se then (if l = 512 then 0 else 101) else 100
def wrS (s : MSt) (n : Int) (f : Nat → BitVec 8) : MSt := { s with S := fun x => if x = n then some f else s.S x, r := { s.r with ct := s.r.ct + 1#64 } }
set_option maxRecDepth 20000 in
set_option maxHeartbeats 4000000 in
theorem write_do {F : Nat → Prop} {p C : Nat} {M : MLoc} {x : World} (h : Hd) (S : Int → Option (Nat → BitVec 8)) (P : Int → Option (Nat × (Nat → BitVec 8))) (ep : Int) (r : Rt) (sl : Int) (hM : MdM F p ⟨h, S, P, ep, r, true, sl⟩ C M x) (bm bn bb bs : Nat) (n : Int) (o : Option Addr) (l k : Nat) (f : Nat → BitVec 8)
    (hm : RowAt bm 1 (fun _ => .pointer (some ⟨p, 0, none⟩)) x) (hn : RowAt bn 1 (fun _ => .int .i64 n) x) (hb : RowAt bb 1 (fun _ => .slice o l k) x) (hV : BV (.slice o l k) l f x) (hB : RowAt bs 4 (fnV (fun i => [34, 35, 37, 38].getD i 0) (fun i => [#[], #[], #[], #[.pointer (some ⟨p, 0, none⟩)]].getD i #[]) (fun i => [#[.pointer (some ⟨bm, 0, none⟩), .pointer (some ⟨bn, 0, none⟩)], #[.pointer (some ⟨bb, 0, none⟩)], #[.pointer (some ⟨bb, 0, none⟩), .pointer (some ⟨bm, 0, none⟩), .pointer (some ⟨bn, 0, none⟩)], #[]].getD i #[])) x) (nF : ¬ F bs) (hok : okI n) (hC : C < maxLen) (E : Int) (s' : MSt) (hEs : E = wrE ⟨h, S, P, ep, r, true, sl⟩ n l ∧ s' = (if wrE ⟨h, S, P, ep, r, true, sl⟩ n l = 0 then wrS ⟨h, S, P, ep, r, true, sl⟩ n f else ⟨h, S, P, ep, r, true, sl⟩)) :
    Calls Try.prog 33 #[.pointer (some ⟨p, 0, none⟩), .slice (some ⟨bs, 0, none⟩) 4 4] x fun e w' => e = .returned (.int .i64 E) ∧ MdM F p s' (C + 1) M w' ∧ Keeps F x w' := by
  obtain ⟨rfl, rfl⟩ := hEs
  have hS := hM.st
  have hw1 := w1_any h M.sb M.pb ep r true sl p bm bn n x hS hm hn
  unfold wrE
  by_cases hr : 0 ≤ n ∧ n < h.se
  · rw [if_pos hr] at hw1
    rw [if_pos hr]
    by_cases hl : l = 512
    · rw [if_pos hl, if_pos rfl]
      subst hl
      obtain ⟨a, rfl⟩ : ∃ a, o = some a := by
        rcases hV with ⟨_, h0⟩ | ⟨a, c, h1, _⟩
        · omega
        · injection h1 with h1; exact ⟨a, h1⟩
      have hS2 : ∀ W, Keeps (fun i => i = M.sb) x W → RowAt p 64 (mdV h M.sb M.pb ep r true sl) W := fun W hK => hS.keep hK hM.ps
      refine (do_pass h M.sb M.pb ep r sl p bs 4 2 (fun i => [34, 35, 37, 38].getD i 0) (fun i => [#[], #[], #[], #[.pointer (some ⟨p, 0, none⟩)]].getD i #[]) (fun i => [#[.pointer (some ⟨bm, 0, none⟩), .pointer (some ⟨bn, 0, none⟩)], #[.pointer (some ⟨bb, 0, none⟩)], #[.pointer (some ⟨bb, 0, none⟩), .pointer (some ⟨bm, 0, none⟩), .pointer (some ⟨bn, 0, none⟩)], #[]].getD i #[]) x hS (by decide) hB rfl (fun W => MapAt Try.prog 3 M.sb (C + 1) (mset (fun x => (S x).map secV) n (some (secV f))) W ∧ Keeps (fun i => i = M.sb) x W)
        (fun W => (MapAt Try.prog 3 M.sb (C + 1) (mset (fun x => (S x).map secV) n (some (secV f))) W ∧ Keeps (fun i => i = M.sb ∨ i = p) x W) ∧ RowAt p 64 (mdV h M.sb M.pb ep { r with ct := r.ct + 1#64 } true sl) W)
        (fun W hW => hB.keep hW.2 fun e => nF (by rw [e]; exact hM.fs)) (fun W hW => hB.keep hW.1.2 fun e => nF (by rcases e with e | e <;> rw [e]; exact hM.fs; exact hM.fp))
        (fun i hi args X => by rcases (by omega : i = 0 ∨ i = 1 ∨ i = 2 ∨ i = 3) with rfl | rfl | rfl | rfl <;> simp [go_sem]) (fun i hi => ?_) ?_ (fun W hW => ?_)).mono ?_
      · rcases (by omega : i = 0 ∨ i = 1) with rfl | rfl
        · exact hw1
        · exact w2_ok bb (some a) 512 k x hb rfl
      · exact (w3_any h M.sb M.pb ep r true sl p bm bn bb C _ n a k f x hS hm hn hb hV hM.mpS hok hC).mono fun e w' ⟨q1, q2, q3⟩ => ⟨q1, q2, q3⟩
      · exact (count_any h M.sb M.pb ep r true sl p W (hS2 W hW.2)).mono fun e w' ⟨q1, q2, q3⟩ => ⟨q1, ⟨hW.1.keep q2 fun e => hM.ps e.symm, (hW.2.mono fun i hi => .inl hi).trans q2 fun i hi => .inl (.inr hi)⟩, q3⟩
      · rintro e w' ⟨q1, ⟨q2, q3⟩, q4⟩
        refine ⟨q1, hM.step q3 (fun i hi => by rcases hi with rfl | rfl; exact hM.fs; exact hM.fp) (wrS ⟨h, S, P, ep, r, true, sl⟩ n f) rfl rfl hM.eps q4 (q2.congr fun x hx => ?_) (Nat.le_succ C) (fun x hx => ?_) (fun e => by rcases e with e | e; exact hM.sm e.symm; exact hM.pm e.symm), q3.mono fun i hi => by rcases hi with rfl | rfl; exact hM.fs; exact hM.fp⟩
        · show (if x = n then _ else _) = Option.map secV (if x = n then _ else _)
          by_cases e : x = n
          · rw [if_pos e, if_pos e]; rfl
          · rw [if_neg e, if_neg e]
        · have hx : (if x = n then some f else S x) ≠ none := hx
          by_cases e : x = n
          · subst e; exact hr
          · rw [if_neg e] at hx; exact hM.kS x hx
    · rw [if_neg hl, if_neg (show ¬ (101 : Int) = 0 by decide)]
      refine (do_refuse h M.sb M.pb ep r sl p bs 4 1 101 (fun i => [34, 35, 37, 38].getD i 0) (fun i => [#[], #[], #[], #[.pointer (some ⟨p, 0, none⟩)]].getD i #[]) (fun i => [#[.pointer (some ⟨bm, 0, none⟩), .pointer (some ⟨bn, 0, none⟩)], #[.pointer (some ⟨bb, 0, none⟩)], #[.pointer (some ⟨bb, 0, none⟩), .pointer (some ⟨bm, 0, none⟩), .pointer (some ⟨bn, 0, none⟩)], #[]].getD i #[]) x hS (by decide) hB (by decide) (by decide) (fun i hi args X => by rcases (by omega : i = 0 ∨ i = 1 ∨ i = 2 ∨ i = 3) with rfl | rfl | rfl | rfl <;> simp [go_sem]) (fun i hi => ?_) ?_).mono ?_
      · obtain rfl : i = 0 := by omega
        exact hw1
      · exact w2_no bb o l k x hb hl
      · rintro e w' ⟨q1, rfl⟩
        exact ⟨q1, hM.mono (Nat.le_succ C), Keeps.refl _ _⟩
  · rw [if_neg hr] at hw1
    rw [if_neg hr, if_neg (show ¬ (100 : Int) = 0 by decide)]
    refine (do_refuse h M.sb M.pb ep r sl p bs 4 0 100 (fun i => [34, 35, 37, 38].getD i 0) (fun i => [#[], #[], #[], #[.pointer (some ⟨p, 0, none⟩)]].getD i #[]) (fun i => [#[.pointer (some ⟨bm, 0, none⟩), .pointer (some ⟨bn, 0, none⟩)], #[.pointer (some ⟨bb, 0, none⟩)], #[.pointer (some ⟨bb, 0, none⟩), .pointer (some ⟨bm, 0, none⟩), .pointer (some ⟨bn, 0, none⟩)], #[]].getD i #[]) x hS (by decide) hB (by decide) (by decide) (fun i hi args X => by rcases (by omega : i = 0 ∨ i = 1 ∨ i = 2 ∨ i = 3) with rfl | rfl | rfl | rfl <;> simp [go_sem]) (fun i hi => absurd hi (Nat.not_lt_zero _)) ?_).mono ?_
    · exact hw1
    rintro e w' ⟨q1, rfl⟩
    exact ⟨q1, hM.mono (Nat.le_succ C), Keeps.refl _ _⟩
set_option maxRecDepth 20000 in
set_option maxHeartbeats 4000000 in
theorem write_open {F : Nat → Prop} {p C : Nat} {M : MLoc} {w : World} (h : Hd) (S : Int → Option (Nat → BitVec 8)) (P : Int → Option (Nat × (Nat → BitVec 8))) (ep : Int) (r : Rt) (sl : Int) (hM : MdM F p ⟨h, S, P, ep, r, true, sl⟩ C M w) (n : Int) (o : Option Addr) (l k : Nat) (f : Nat → BitVec 8) (hV : BV (.slice o l k) l f w) (hok : okI n) (hC : C < maxLen) (E : Int) (s' : MSt) (hEs : E = wrE ⟨h, S, P, ep, r, true, sl⟩ n l ∧ s' = if wrE ⟨h, S, P, ep, r, true, sl⟩ n l = 0 then wrS ⟨h, S, P, ep, r, true, sl⟩ n f else ⟨h, S, P, ep, r, true, sl⟩) :
    Calls Try.prog 11 #[.pointer (some ⟨p, 0, none⟩), .int .i64 n, .slice o l k] w fun e w' => e = .returned (.int .i64 E) ∧ MdM F p s' (C + 1) M w' ∧ Keeps F w w' := by
  have hlt := hideit hM.lt
  replace hM := hideit hM
  replace hV := hideit hV
  replace hok := hideit hok
  replace hC := hideit hC
  replace hEs := hideit hEs
  have hE := hideit (Ext.refl w)
  go_enter Try.func11, Try.ntmps11
  go_upto_region 0 with (fail)
  refine wp_region_lit ?_
  have A0 := hideit (row1_new w (.pointer (some ⟨p, 0, none⟩)) 26)
  have XB : Ext w (w.alloc (.cells #[.pointer (some ⟨p, 0, none⟩)] 26)) := (Below.refl _ _).alloc (Nat.le_refl _) _
  have L0 := hideit (hM.out.ext XB)
  have L1 := hideit (hV.out.ext XB)
  have AE := hideit (Ext.trans hE.out (XB))
  have AB := hideit (hE.out.size)
  clear XB
  refine wpList_to rfl (.pointer (some ⟨w.heap.size, 0, none⟩)) (w.alloc (.cells #[.pointer (some ⟨p, 0, none⟩)] 26)) (by simp [go_sem]) ?_
  simp only [Act.put, List.setIfInBounds_toArray, List.set_cons_zero, List.set_cons_succ]
  generalize w.alloc (.cells #[.pointer (some ⟨p, 0, none⟩)] 26) = x2 at A0 L0 L1 AE ⊢
  obtain ⟨z1, ez1⟩ : ∃ b, b = w.heap.size := ⟨_, rfl⟩
  have ABz1 : Hid (w.heap.size ≤ z1) := by rw [ez1]; exact AB.out
  clear AB
  rw [← ez1] at A0  ⊢
  clear ez1
  have Hz1 := A0
  clear A0
  replace hM := L0
  clear L0
  replace hV := L1
  clear L1
  replace hE := AE
  clear AE
  have A0 := hideit (row1_new x2 (.int .i64 (n)) 3)
  have XB : Ext x2 (x2.alloc (.cells #[.int .i64 (n)] 3)) := (Below.refl _ _).alloc (Nat.le_refl _) _
  have A1 := hideit (Hz1.out.carry XB)
  have L0 := hideit (hM.out.ext XB)
  have L1 := hideit (hV.out.ext XB)
  have AE := hideit (Ext.trans hE.out (XB))
  have AB := hideit (hE.out.size)
  have D0 : Hid (z1 ≠ x2.heap.size) := Nat.ne_of_lt Hz1.out.2.2
  clear XB
  refine wpList_to rfl (.pointer (some ⟨x2.heap.size, 0, none⟩)) (x2.alloc (.cells #[.int .i64 (n)] 3)) (by simp [go_sem]) ?_
  simp only [Act.put, List.setIfInBounds_toArray, List.set_cons_zero, List.set_cons_succ]
  generalize x2.alloc (.cells #[.int .i64 (n)] 3) = x4 at A0 A1 L0 L1 AE ⊢
  obtain ⟨z3, ez3⟩ : ∃ b, b = x2.heap.size := ⟨_, rfl⟩
  have ABz3 : Hid (w.heap.size ≤ z3) := by rw [ez3]; exact AB.out
  clear AB
  rw [← ez3] at A0 D0 ⊢
  clear ez3
  have Hz3 := A0
  clear A0
  replace Hz1 := A1
  clear A1
  replace hM := L0
  clear L0
  replace hV := L1
  clear L1
  replace hE := AE
  clear AE
  have Dz3_0 := D0
  clear D0
  have A0 := hideit (row1_new x4 (.slice o l k) 22)
  have XB : Ext x4 (x4.alloc (.cells #[.slice o l k] 22)) := (Below.refl _ _).alloc (Nat.le_refl _) _
  have A1 := hideit (Hz1.out.carry XB)
  have A2 := hideit (Hz3.out.carry XB)
  have L0 := hideit (hM.out.ext XB)
  have L1 := hideit (hV.out.ext XB)
  have AE := hideit (Ext.trans hE.out (XB))
  have AB := hideit (hE.out.size)
  have D0 : Hid (z1 ≠ x4.heap.size) := Nat.ne_of_lt Hz1.out.2.2
  have D1 : Hid (z3 ≠ x4.heap.size) := Nat.ne_of_lt Hz3.out.2.2
  clear XB
  refine wpList_to rfl (.pointer (some ⟨x4.heap.size, 0, none⟩)) (x4.alloc (.cells #[.slice o l k] 22)) (by simp [go_sem]) ?_
  simp only [Act.put, List.setIfInBounds_toArray, List.set_cons_zero, List.set_cons_succ]
  generalize x4.alloc (.cells #[.slice o l k] 22) = x6 at A0 A1 A2 L0 L1 AE ⊢
  obtain ⟨z5, ez5⟩ : ∃ b, b = x4.heap.size := ⟨_, rfl⟩
  have ABz5 : Hid (w.heap.size ≤ z5) := by rw [ez5]; exact AB.out
  clear AB
  rw [← ez5] at A0 D0 D1 ⊢
  clear ez5
  have Hz5 := A0
  clear A0
  replace Hz1 := A1
  clear A1
  replace Hz3 := A2
  clear A2
  replace hM := L0
  clear L0
  replace hV := L1
  clear L1
  replace hE := AE
  clear AE
  have Dz5_0 := D0
  clear D0
  have Dz5_1 := D1
  clear D1
  refine xm [some (.int .i64 0)] (by kernel_rfl) (by simp [xr, go_sem]) ?_
  simp only [xw, p0, p1, p2, p3]
  go_upto_region 1 with (fail)
  refine wp_region_lit ?_
  have m7 : x6.cell? ⟨z1, 0, none⟩ = some (.pointer (some ⟨p, 0, none⟩)) := Hz1.out.1 0 (by decide)
  refine xm [some (.pointer (some ⟨p, 0, none⟩)), some (.func (.func 34) #[] #[.pointer (some ⟨z1, 0, none⟩), .pointer (some ⟨z3, 0, none⟩)]), some (.func (.func 35) #[] #[.pointer (some ⟨z5, 0, none⟩)]), some (.func (.func 37) #[] #[.pointer (some ⟨z5, 0, none⟩), .pointer (some ⟨z1, 0, none⟩), .pointer (some ⟨z3, 0, none⟩)]), some (.pointer (some ⟨p, 0, none⟩)), some (.func (.func 38) #[.pointer (some ⟨p, 0, none⟩)] #[])] (by kernel_rfl) (by simp [xr, go_sem, m7]) ?_
  simp only [xw, p0, p1, p2, p3]
  clear m7
  have A0 := hideit (RowAt.newOf x6 4 (fnV (fun i => [34, 35, 37, 38].getD i 0) (fun i => [#[], #[], #[], #[.pointer (some ⟨p, 0, none⟩)]].getD i #[]) (fun i => [#[.pointer (some ⟨z1, 0, none⟩), .pointer (some ⟨z3, 0, none⟩)], #[.pointer (some ⟨z5, 0, none⟩)], #[.pointer (some ⟨z5, 0, none⟩), .pointer (some ⟨z1, 0, none⟩), .pointer (some ⟨z3, 0, none⟩)], #[]].getD i #[])) 47 #[.func (.func 34) #[] #[.pointer (some ⟨z1, 0, none⟩), .pointer (some ⟨z3, 0, none⟩)], .func (.func 35) #[] #[.pointer (some ⟨z5, 0, none⟩)], .func (.func 37) #[] #[.pointer (some ⟨z5, 0, none⟩), .pointer (some ⟨z1, 0, none⟩), .pointer (some ⟨z3, 0, none⟩)], .func (.func 38) #[.pointer (some ⟨p, 0, none⟩)] #[]] (fun j hj => by rcases (by omega : j = 0 ∨ j = 1 ∨ j = 2 ∨ j = 3) with rfl | rfl | rfl | rfl <;> rfl))
  have XB : Ext x6 (x6.alloc (.cells #[.func (.func 34) #[] #[.pointer (some ⟨z1, 0, none⟩), .pointer (some ⟨z3, 0, none⟩)], .func (.func 35) #[] #[.pointer (some ⟨z5, 0, none⟩)], .func (.func 37) #[] #[.pointer (some ⟨z5, 0, none⟩), .pointer (some ⟨z1, 0, none⟩), .pointer (some ⟨z3, 0, none⟩)], .func (.func 38) #[.pointer (some ⟨p, 0, none⟩)] #[]] 47)) := (Below.refl _ _).alloc (Nat.le_refl _) _
  have A1 := hideit (Hz1.out.carry XB)
  have A2 := hideit (Hz3.out.carry XB)
  have A3 := hideit (Hz5.out.carry XB)
  have L0 := hideit (hM.out.ext XB)
  have L1 := hideit (hV.out.ext XB)
  have AE := hideit (Ext.trans hE.out (XB))
  have AB := hideit (hE.out.size)
  have D0 : Hid (z1 ≠ x6.heap.size) := Nat.ne_of_lt Hz1.out.2.2
  have D1 : Hid (z3 ≠ x6.heap.size) := Nat.ne_of_lt Hz3.out.2.2
  have D2 : Hid (z5 ≠ x6.heap.size) := Nat.ne_of_lt Hz5.out.2.2
  clear XB
  refine wpList_to rfl (.slice (some ⟨x6.heap.size, 0, none⟩) 4 4) (x6.alloc (.cells #[.func (.func 34) #[] #[.pointer (some ⟨z1, 0, none⟩), .pointer (some ⟨z3, 0, none⟩)], .func (.func 35) #[] #[.pointer (some ⟨z5, 0, none⟩)], .func (.func 37) #[] #[.pointer (some ⟨z5, 0, none⟩), .pointer (some ⟨z1, 0, none⟩), .pointer (some ⟨z3, 0, none⟩)], .func (.func 38) #[.pointer (some ⟨p, 0, none⟩)] #[]] 47)) (by simp [go_sem]) ?_
  simp only [Act.put, List.setIfInBounds_toArray, List.set_cons_zero, List.set_cons_succ]
  generalize x6.alloc (.cells #[.func (.func 34) #[] #[.pointer (some ⟨z1, 0, none⟩), .pointer (some ⟨z3, 0, none⟩)], .func (.func 35) #[] #[.pointer (some ⟨z5, 0, none⟩)], .func (.func 37) #[] #[.pointer (some ⟨z5, 0, none⟩), .pointer (some ⟨z1, 0, none⟩), .pointer (some ⟨z3, 0, none⟩)], .func (.func 38) #[.pointer (some ⟨p, 0, none⟩)] #[]] 47) = x10 at A0 A1 A2 A3 L0 L1 AE ⊢
  obtain ⟨z9, ez9⟩ : ∃ b, b = x6.heap.size := ⟨_, rfl⟩
  have ABz9 : Hid (w.heap.size ≤ z9) := by rw [ez9]; exact AB.out
  clear AB
  rw [← ez9] at A0 D0 D1 D2 ⊢
  clear ez9
  have Hz9 := A0
  clear A0
  replace Hz1 := A1
  clear A1
  replace Hz3 := A2
  clear A2
  replace Hz5 := A3
  clear A3
  replace hM := L0
  clear L0
  replace hV := L1
  clear L1
  replace hE := AE
  clear AE
  have Dz9_0 := D0
  clear D0
  have Dz9_1 := D1
  clear D1
  have Dz9_2 := D2
  clear D2
  have nF : ¬ F z9 := fun e => by have := hlt.out z9 e; have := ABz9.out; omega
  have kd := hideit (write_do h S P ep r sl hM.out z1 z3 z5 z9 n o l k f Hz1.out Hz3.out Hz5.out hV.out Hz9.out nF hok.out hC.out E s' hEs.out)
  refine wpList_call rfl (by simp [go_sem]) ((kd.out).mono ?_)
  rintro e y9 ⟨rfl, hM9, hK9⟩
  refine ⟨_, rfl, ?_⟩
  simp only [Act.put, List.setIfInBounds_toArray, List.set_cons_zero, List.set_cons_succ]
  replace hM9 := hideit hM9
  replace hK9 := hideit ((Keeps.of_ext hE.out).trans hK9 fun i hi => .inl hi)
  clear kd hM nF
  refine xm [some (.int .i64 (E))] (by kernel_rfl) (by simp [xr, go_sem]) ?_
  simp only [xw, p0, p1, p2, p3]
  go_wp2
  go_ret
  exact ⟨rfl, hM9.out, hK9.out⟩
set_option maxRecDepth 20000 in
set_option maxHeartbeats 4000000 in
theorem write_shut {F : Nat → Prop} {p C : Nat} {M : MLoc} {w : World} (h : Hd) (S : Int → Option (Nat → BitVec 8)) (P : Int → Option (Nat × (Nat → BitVec 8))) (ep : Int) (r : Rt) (sl : Int) (hM : MdM F p ⟨h, S, P, ep, r, false, sl⟩ C M w) (n : Int) (o : Option Addr) (l k : Nat) :
    Calls Try.prog 11 #[.pointer (some ⟨p, 0, none⟩), .int .i64 n, .slice o l k] w fun e w' => e = .returned (.int .i64 6) ∧ Ext w w' := by
  replace hM := hideit hM
  have hE := hideit (Ext.refl w)
  go_enter Try.func11, Try.ntmps11
  go_upto_region 0 with (fail)
  refine wp_region_lit ?_
  have A0 := hideit (row1_new w (.pointer (some ⟨p, 0, none⟩)) 26)
  have XB : Ext w (w.alloc (.cells #[.pointer (some ⟨p, 0, none⟩)] 26)) := (Below.refl _ _).alloc (Nat.le_refl _) _
  have L0 := hideit (hM.out.ext XB)
  have AE := hideit (Ext.trans hE.out (XB))
  have AB := hideit (hE.out.size)
  clear XB
  refine wpList_to rfl (.pointer (some ⟨w.heap.size, 0, none⟩)) (w.alloc (.cells #[.pointer (some ⟨p, 0, none⟩)] 26)) (by simp [go_sem]) ?_
  simp only [Act.put, List.setIfInBounds_toArray, List.set_cons_zero, List.set_cons_succ]
  generalize w.alloc (.cells #[.pointer (some ⟨p, 0, none⟩)] 26) = x2 at A0 L0 AE ⊢
  obtain ⟨z1, ez1⟩ : ∃ b, b = w.heap.size := ⟨_, rfl⟩
  have ABz1 : Hid (w.heap.size ≤ z1) := by rw [ez1]; exact AB.out
  clear AB
  rw [← ez1] at A0  ⊢
  clear ez1
  have Hz1 := A0
  clear A0
  replace hM := L0
  clear L0
  replace hE := AE
  clear AE
  have A0 := hideit (row1_new x2 (.int .i64 (n)) 3)
  have XB : Ext x2 (x2.alloc (.cells #[.int .i64 (n)] 3)) := (Below.refl _ _).alloc (Nat.le_refl _) _
  have A1 := hideit (Hz1.out.carry XB)
  have L0 := hideit (hM.out.ext XB)
  have AE := hideit (Ext.trans hE.out (XB))
  have AB := hideit (hE.out.size)
  have D0 : Hid (z1 ≠ x2.heap.size) := Nat.ne_of_lt Hz1.out.2.2
  clear XB
  refine wpList_to rfl (.pointer (some ⟨x2.heap.size, 0, none⟩)) (x2.alloc (.cells #[.int .i64 (n)] 3)) (by simp [go_sem]) ?_
  simp only [Act.put, List.setIfInBounds_toArray, List.set_cons_zero, List.set_cons_succ]
  generalize x2.alloc (.cells #[.int .i64 (n)] 3) = x4 at A0 A1 L0 AE ⊢
  obtain ⟨z3, ez3⟩ : ∃ b, b = x2.heap.size := ⟨_, rfl⟩
  have ABz3 : Hid (w.heap.size ≤ z3) := by rw [ez3]; exact AB.out
  clear AB
  rw [← ez3] at A0 D0 ⊢
  clear ez3
  have Hz3 := A0
  clear A0
  replace Hz1 := A1
  clear A1
  replace hM := L0
  clear L0
  replace hE := AE
  clear AE
  have Dz3_0 := D0
  clear D0
  have A0 := hideit (row1_new x4 (.slice o l k) 22)
  have XB : Ext x4 (x4.alloc (.cells #[.slice o l k] 22)) := (Below.refl _ _).alloc (Nat.le_refl _) _
  have A1 := hideit (Hz1.out.carry XB)
  have A2 := hideit (Hz3.out.carry XB)
  have L0 := hideit (hM.out.ext XB)
  have AE := hideit (Ext.trans hE.out (XB))
  have AB := hideit (hE.out.size)
  have D0 : Hid (z1 ≠ x4.heap.size) := Nat.ne_of_lt Hz1.out.2.2
  have D1 : Hid (z3 ≠ x4.heap.size) := Nat.ne_of_lt Hz3.out.2.2
  clear XB
  refine wpList_to rfl (.pointer (some ⟨x4.heap.size, 0, none⟩)) (x4.alloc (.cells #[.slice o l k] 22)) (by simp [go_sem]) ?_
  simp only [Act.put, List.setIfInBounds_toArray, List.set_cons_zero, List.set_cons_succ]
  generalize x4.alloc (.cells #[.slice o l k] 22) = x6 at A0 A1 A2 L0 AE ⊢
  obtain ⟨z5, ez5⟩ : ∃ b, b = x4.heap.size := ⟨_, rfl⟩
  have ABz5 : Hid (w.heap.size ≤ z5) := by rw [ez5]; exact AB.out
  clear AB
  rw [← ez5] at A0 D0 D1 ⊢
  clear ez5
  have Hz5 := A0
  clear A0
  replace Hz1 := A1
  clear A1
  replace Hz3 := A2
  clear A2
  replace hM := L0
  clear L0
  replace hE := AE
  clear AE
  have Dz5_0 := D0
  clear D0
  have Dz5_1 := D1
  clear D1
  refine xm [some (.int .i64 0)] (by kernel_rfl) (by simp [xr, go_sem]) ?_
  simp only [xw, p0, p1, p2, p3]
  go_upto_region 1 with (fail)
  refine wp_region_lit ?_
  have m7 : x6.cell? ⟨z1, 0, none⟩ = some (.pointer (some ⟨p, 0, none⟩)) := Hz1.out.1 0 (by decide)
  refine xm [some (.pointer (some ⟨p, 0, none⟩)), some (.func (.func 34) #[] #[.pointer (some ⟨z1, 0, none⟩), .pointer (some ⟨z3, 0, none⟩)]), some (.func (.func 35) #[] #[.pointer (some ⟨z5, 0, none⟩)]), some (.func (.func 37) #[] #[.pointer (some ⟨z5, 0, none⟩), .pointer (some ⟨z1, 0, none⟩), .pointer (some ⟨z3, 0, none⟩)]), some (.pointer (some ⟨p, 0, none⟩)), some (.func (.func 38) #[.pointer (some ⟨p, 0, none⟩)] #[])] (by kernel_rfl) (by simp [xr, go_sem, m7]) ?_
  simp only [xw, p0, p1, p2, p3]
  clear m7
  have A0 := hideit (RowAt.newOf x6 4 (fnV (fun i => [34, 35, 37, 38].getD i 0) (fun i => [#[], #[], #[], #[.pointer (some ⟨p, 0, none⟩)]].getD i #[]) (fun i => [#[.pointer (some ⟨z1, 0, none⟩), .pointer (some ⟨z3, 0, none⟩)], #[.pointer (some ⟨z5, 0, none⟩)], #[.pointer (some ⟨z5, 0, none⟩), .pointer (some ⟨z1, 0, none⟩), .pointer (some ⟨z3, 0, none⟩)], #[]].getD i #[])) 47 #[.func (.func 34) #[] #[.pointer (some ⟨z1, 0, none⟩), .pointer (some ⟨z3, 0, none⟩)], .func (.func 35) #[] #[.pointer (some ⟨z5, 0, none⟩)], .func (.func 37) #[] #[.pointer (some ⟨z5, 0, none⟩), .pointer (some ⟨z1, 0, none⟩), .pointer (some ⟨z3, 0, none⟩)], .func (.func 38) #[.pointer (some ⟨p, 0, none⟩)] #[]] (fun j hj => by rcases (by omega : j = 0 ∨ j = 1 ∨ j = 2 ∨ j = 3) with rfl | rfl | rfl | rfl <;> rfl))
  have XB : Ext x6 (x6.alloc (.cells #[.func (.func 34) #[] #[.pointer (some ⟨z1, 0, none⟩), .pointer (some ⟨z3, 0, none⟩)], .func (.func 35) #[] #[.pointer (some ⟨z5, 0, none⟩)], .func (.func 37) #[] #[.pointer (some ⟨z5, 0, none⟩), .pointer (some ⟨z1, 0, none⟩), .pointer (some ⟨z3, 0, none⟩)], .func (.func 38) #[.pointer (some ⟨p, 0, none⟩)] #[]] 47)) := (Below.refl _ _).alloc (Nat.le_refl _) _
  have A1 := hideit (Hz1.out.carry XB)
  have A2 := hideit (Hz3.out.carry XB)
  have A3 := hideit (Hz5.out.carry XB)
  have L0 := hideit (hM.out.ext XB)
  have AE := hideit (Ext.trans hE.out (XB))
  have AB := hideit (hE.out.size)
  have D0 : Hid (z1 ≠ x6.heap.size) := Nat.ne_of_lt Hz1.out.2.2
  have D1 : Hid (z3 ≠ x6.heap.size) := Nat.ne_of_lt Hz3.out.2.2
  have D2 : Hid (z5 ≠ x6.heap.size) := Nat.ne_of_lt Hz5.out.2.2
  clear XB
  refine wpList_to rfl (.slice (some ⟨x6.heap.size, 0, none⟩) 4 4) (x6.alloc (.cells #[.func (.func 34) #[] #[.pointer (some ⟨z1, 0, none⟩), .pointer (some ⟨z3, 0, none⟩)], .func (.func 35) #[] #[.pointer (some ⟨z5, 0, none⟩)], .func (.func 37) #[] #[.pointer (some ⟨z5, 0, none⟩), .pointer (some ⟨z1, 0, none⟩), .pointer (some ⟨z3, 0, none⟩)], .func (.func 38) #[.pointer (some ⟨p, 0, none⟩)] #[]] 47)) (by simp [go_sem]) ?_
  simp only [Act.put, List.setIfInBounds_toArray, List.set_cons_zero, List.set_cons_succ]
  generalize x6.alloc (.cells #[.func (.func 34) #[] #[.pointer (some ⟨z1, 0, none⟩), .pointer (some ⟨z3, 0, none⟩)], .func (.func 35) #[] #[.pointer (some ⟨z5, 0, none⟩)], .func (.func 37) #[] #[.pointer (some ⟨z5, 0, none⟩), .pointer (some ⟨z1, 0, none⟩), .pointer (some ⟨z3, 0, none⟩)], .func (.func 38) #[.pointer (some ⟨p, 0, none⟩)] #[]] 47) = x10 at A0 A1 A2 A3 L0 AE ⊢
  obtain ⟨z9, ez9⟩ : ∃ b, b = x6.heap.size := ⟨_, rfl⟩
  have ABz9 : Hid (w.heap.size ≤ z9) := by rw [ez9]; exact AB.out
  clear AB
  rw [← ez9] at A0 D0 D1 D2 ⊢
  clear ez9
  have Hz9 := A0
  clear A0
  replace Hz1 := A1
  clear A1
  replace Hz3 := A2
  clear A2
  replace Hz5 := A3
  clear A3
  replace hM := L0
  clear L0
  replace hE := AE
  clear AE
  have Dz9_0 := D0
  clear D0
  have Dz9_1 := D1
  clear D1
  have Dz9_2 := D2
  clear D2
  refine wpList_call rfl (by simp [go_sem]) ((do_shut h M.sb M.pb ep r sl p (.slice (some ⟨z9, 0, none⟩) 4 4) x10 hM.out.st).mono ?_)
  rintro e yy ⟨rfl, hyy⟩
  refine ⟨_, rfl, ?_⟩
  simp only [Act.put, List.setIfInBounds_toArray, List.set_cons_zero, List.set_cons_succ]
  replace hyy := hyy.symm
  subst hyy
  refine xm [some (.int .i64 6)] (by kernel_rfl) (by simp [xr, go_sem]) ?_
  simp only [xw, p0, p1, p2, p3]
  go_wp2
  go_ret
  exact ⟨rfl, hE.out⟩
end Go.Proofs.Ytcipkfalnjgghaa
