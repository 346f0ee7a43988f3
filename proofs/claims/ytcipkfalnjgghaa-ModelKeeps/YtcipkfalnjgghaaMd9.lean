/-
  Read, whole.
-/
import Derived.Test.YtcipkfalnjgghaaMd8
namespace Go.Proofs.Ytcipkfalnjgghaa
open Go.RowKit Go.BigFrame Go.Maps
set_option linter.unusedVariables false
theorem rd_do {F : Nat → Prop} {p C : Nat} {M : MLoc} {w : World} (s : MSt) (hM : MdM F p s C M w) (hop : s.op = true) (bm bn : Nat) (n : Int) (hm : RowAt bm 1 (fun _ => .pointer (some ⟨p, 0, none⟩)) w) (hn : RowAt bn 1 (fun _ => .int .i64 n) w) (hok : okI n) (cs d bs : Nat) (hc : RowAt cs 1 (fun _ => .func (.func 24) #[] #[.pointer (some ⟨bm, 0, none⟩), .pointer (some ⟨bn, 0, none⟩)]) w) (hd : RowAt d 1 (fun _ => .slice none 0 0) w) (hB : RowAt bs 1 (fnV (fun i => [58].getD i 0) (fun i => [#[]].getD i #[]) (fun i => [#[.pointer (some ⟨cs, 0, none⟩), .pointer (some ⟨d, 0, none⟩)]].getD i #[])) w) (ncs : cs ≠ d) (nbm : bm ≠ d) (nbn : bn ≠ d) (nbs : bs ≠ d) :
    Calls Try.prog 33 #[.pointer (some ⟨p, 0, none⟩), .slice (some ⟨bs, 0, none⟩) 1 1] w fun e w' => ∃ c : Int, e = .returned (.int .i64 c) ∧ ∃ vo vl vk, RdP s n w.heap.size (.slice vo vl vk) c w' ∧ Keeps (fun i => i = d) w w' ∧ RowAt d 1 (fun _ => .slice vo vl vk) w' := by
  have hS := hM.st
  rw [hop] at hS
  refine do_one s.h M.sb M.pb s.ep s.r s.sl p bs (fun i => [58].getD i 0) (fun i => [#[]].getD i #[]) (fun i => [#[.pointer (some ⟨cs, 0, none⟩), .pointer (some ⟨d, 0, none⟩)]].getD i #[]) w hS hB (fun c W => ∃ vo vl vk, RdP s n w.heap.size (.slice vo vl vk) c W ∧ Keeps (fun i => i = d) w W ∧ RowAt d 1 (fun _ => .slice vo vl vk) W) (fun W ⟨vo, vl, vk, _, hK, _⟩ => hB.keep hK nbs) (fun args X => by simp [go_sem]) ?_
  exact (t58_any s hM bm bn n hm hn hok cs d hc hd ncs nbm nbn).mono fun e w' ⟨vo, vl, vk, c, h1, h2, h3, h4⟩ => ⟨c, h1, vo, vl, vk, h2, h3, h4⟩
set_option maxRecDepth 20000 in
set_option maxHeartbeats 4000000 in
theorem ans_open {F : Nat → Prop} {p C : Nat} {M : MLoc} {w : World} (s : MSt) (hM : MdM F p s C M w) (hop : s.op = true) (bm bn : Nat) (n : Int) (hm : RowAt bm 1 (fun _ => .pointer (some ⟨p, 0, none⟩)) w) (hn : RowAt bn 1 (fun _ => .int .i64 n) w) (hok : okI n) : Calls Try.prog 23 #[.pointer (some ⟨p, 0, none⟩), .func (.func 24) #[] #[.pointer (some ⟨bm, 0, none⟩), .pointer (some ⟨bn, 0, none⟩)]] w fun e w' => ∃ vo vl vk c, e = .returned (.tuple #[.slice vo vl vk, .int .i64 c]) ∧ RdP s n w.heap.size (.slice vo vl vk) c w' ∧ Ext w w' := by
  replace hM := hideit hM
  replace hm := hideit hm
  replace hn := hideit hn
  replace hok := hideit hok
  replace hop := hideit hop
  have hE := hideit (Ext.refl w)
  go_enter Try.func23, Try.ntmps23
  go_upto_region 0 with (fail)
  refine wp_region_lit ?_
  have A0 := hideit (row1_new w (.func (.func 24) #[] #[.pointer (some ⟨bm, 0, none⟩), .pointer (some ⟨bn, 0, none⟩)]) 69)
  have XB : Ext w (w.alloc (.cells #[.func (.func 24) #[] #[.pointer (some ⟨bm, 0, none⟩), .pointer (some ⟨bn, 0, none⟩)]] 69)) := (Below.refl _ _).alloc (Nat.le_refl _) _
  have A1 := hideit (hm.out.carry XB)
  have A2 := hideit (hn.out.carry XB)
  have L0 := hideit (hM.out.ext XB)
  have AE := hideit (Ext.trans hE.out (XB))
  have AB := hideit (hE.out.size)
  have D0 : Hid (bm ≠ w.heap.size) := Nat.ne_of_lt hm.out.2.2
  have D1 : Hid (bn ≠ w.heap.size) := Nat.ne_of_lt hn.out.2.2
  clear XB
  refine wpList_to rfl (.pointer (some ⟨w.heap.size, 0, none⟩)) (w.alloc (.cells #[.func (.func 24) #[] #[.pointer (some ⟨bm, 0, none⟩), .pointer (some ⟨bn, 0, none⟩)]] 69)) (by simp [go_sem]) ?_
  simp only [Act.put, List.setIfInBounds_toArray, List.set_cons_zero, List.set_cons_succ]
  generalize w.alloc (.cells #[.func (.func 24) #[] #[.pointer (some ⟨bm, 0, none⟩), .pointer (some ⟨bn, 0, none⟩)]] 69) = x2 at A0 A1 A2 L0 AE ⊢
  obtain ⟨z1, ez1⟩ : ∃ b, b = w.heap.size := ⟨_, rfl⟩
  have ABz1 : Hid (w.heap.size ≤ z1) := by rw [ez1]; exact AB.out
  clear AB
  rw [← ez1] at A0 D0 D1 ⊢
  clear ez1
  have Hz1 := A0
  clear A0
  replace hm := A1
  clear A1
  replace hn := A2
  clear A2
  replace hM := L0
  clear L0
  replace hE := AE
  clear AE
  have Dz1_0 := D0
  clear D0
  have Dz1_1 := D1
  clear D1
  refine xm [some (.slice none 0 0), some (.int .i64 0)] (by kernel_rfl) (by simp [xr, go_sem]) ?_
  simp only [xw, p0, p1, p2, p3]
  go_upto_region 1 with (fail)
  refine wp_region_lit ?_
  have A0 := hideit (row1_new x2 (.slice none 0 0) 22)
  have XB : Ext x2 (x2.alloc (.cells #[.slice none 0 0] 22)) := (Below.refl _ _).alloc (Nat.le_refl _) _
  have A1 := hideit (hm.out.carry XB)
  have A2 := hideit (hn.out.carry XB)
  have A3 := hideit (Hz1.out.carry XB)
  have L0 := hideit (hM.out.ext XB)
  have AE := hideit (Ext.trans hE.out (XB))
  have AB := hideit (hE.out.size)
  have D0 : Hid (bm ≠ x2.heap.size) := Nat.ne_of_lt hm.out.2.2
  have D1 : Hid (bn ≠ x2.heap.size) := Nat.ne_of_lt hn.out.2.2
  have D2 : Hid (z1 ≠ x2.heap.size) := Nat.ne_of_lt Hz1.out.2.2
  clear XB
  refine wpList_to rfl (.pointer (some ⟨x2.heap.size, 0, none⟩)) (x2.alloc (.cells #[.slice none 0 0] 22)) (by simp [go_sem]) ?_
  simp only [Act.put, List.setIfInBounds_toArray, List.set_cons_zero, List.set_cons_succ]
  generalize x2.alloc (.cells #[.slice none 0 0] 22) = x4 at A0 A1 A2 A3 L0 AE ⊢
  obtain ⟨z3, ez3⟩ : ∃ b, b = x2.heap.size := ⟨_, rfl⟩
  have ABz3 : Hid (w.heap.size ≤ z3) := by rw [ez3]; exact AB.out
  clear AB
  rw [← ez3] at A0 D0 D1 D2 ⊢
  clear ez3
  have Hz3 := A0
  clear A0
  replace hm := A1
  clear A1
  replace hn := A2
  clear A2
  replace Hz1 := A3
  clear A3
  replace hM := L0
  clear L0
  replace hE := AE
  clear AE
  have Dz3_0 := D0
  clear D0
  have Dz3_1 := D1
  clear D1
  have Dz3_2 := D2
  clear D2
  go_upto_region 2 with (fail)
  refine wp_region_lit ?_
  refine xm [some (.pointer (some ⟨p, 0, none⟩)), some (.func (.func 58) #[] #[.pointer (some ⟨z1, 0, none⟩), .pointer (some ⟨z3, 0, none⟩)])] (by kernel_rfl) (by simp [xr, go_sem]) ?_
  simp only [xw, p0, p1, p2, p3]
  have A0 := hideit (RowAt.newOf x4 1 (fnV (fun i => [58].getD i 0) (fun i => [#[]].getD i #[]) (fun i => [#[.pointer (some ⟨z1, 0, none⟩), .pointer (some ⟨z3, 0, none⟩)]].getD i #[])) 47 #[.func (.func 58) #[] #[.pointer (some ⟨z1, 0, none⟩), .pointer (some ⟨z3, 0, none⟩)]] (fun j hj => by rcases (by omega : j = 0) with rfl <;> rfl))
  have XB : Ext x4 (x4.alloc (.cells #[.func (.func 58) #[] #[.pointer (some ⟨z1, 0, none⟩), .pointer (some ⟨z3, 0, none⟩)]] 47)) := (Below.refl _ _).alloc (Nat.le_refl _) _
  have A1 := hideit (hm.out.carry XB)
  have A2 := hideit (hn.out.carry XB)
  have A3 := hideit (Hz1.out.carry XB)
  have A4 := hideit (Hz3.out.carry XB)
  have L0 := hideit (hM.out.ext XB)
  have AE := hideit (Ext.trans hE.out (XB))
  have AB := hideit (hE.out.size)
  have D0 : Hid (bm ≠ x4.heap.size) := Nat.ne_of_lt hm.out.2.2
  have D1 : Hid (bn ≠ x4.heap.size) := Nat.ne_of_lt hn.out.2.2
  have D2 : Hid (z1 ≠ x4.heap.size) := Nat.ne_of_lt Hz1.out.2.2
  have D3 : Hid (z3 ≠ x4.heap.size) := Nat.ne_of_lt Hz3.out.2.2
  clear XB
  refine wpList_to rfl (.slice (some ⟨x4.heap.size, 0, none⟩) 1 1) (x4.alloc (.cells #[.func (.func 58) #[] #[.pointer (some ⟨z1, 0, none⟩), .pointer (some ⟨z3, 0, none⟩)]] 47)) (by simp [go_sem]) ?_
  simp only [Act.put, List.setIfInBounds_toArray, List.set_cons_zero, List.set_cons_succ]
  generalize x4.alloc (.cells #[.func (.func 58) #[] #[.pointer (some ⟨z1, 0, none⟩), .pointer (some ⟨z3, 0, none⟩)]] 47) = x6 at A0 A1 A2 A3 A4 L0 AE ⊢
  obtain ⟨z5, ez5⟩ : ∃ b, b = x4.heap.size := ⟨_, rfl⟩
  have ABz5 : Hid (w.heap.size ≤ z5) := by rw [ez5]; exact AB.out
  clear AB
  rw [← ez5] at A0 D0 D1 D2 D3 ⊢
  clear ez5
  have Hz5 := A0
  clear A0
  replace hm := A1
  clear A1
  replace hn := A2
  clear A2
  replace Hz1 := A3
  clear A3
  replace Hz3 := A4
  clear A4
  replace hM := L0
  clear L0
  replace hE := AE
  clear AE
  have Dz5_0 := D0
  clear D0
  have Dz5_1 := D1
  clear D1
  have Dz5_2 := D2
  clear D2
  have Dz5_3 := D3
  clear D3
  have kd := hideit (rd_do s hM.out hop.out bm bn n hm.out hn.out hok.out z1 z3 z5 Hz1.out Hz3.out Hz5.out (Dz3_2.out) (Dz3_0.out) (Dz3_1.out) (Ne.symm (Dz5_3.out)))
  have hBy := hideit hE.out.size
  have hE0 := hE
  refine wpList_call rfl (by simp [go_sem]) ((kd.out).mono ?_)
  rintro e y9 ⟨c, rfl, vo, vl, vk, hP, hK, hd⟩
  refine ⟨_, rfl, ?_⟩
  simp only [Act.put, List.setIfInBounds_toArray, List.set_cons_zero, List.set_cons_succ]
  replace hP := hideit hP
  replace hK := hideit hK
  replace hd := hideit hd
  clear kd hM hE
  have hE := hideit (Ext.keeps hE0.out hK.out fun i e => by rw [e]; exact ABz3.out)
  refine xm [some (.int .i64 (c))] (by kernel_rfl) (by simp [xr, go_sem]) ?_
  simp only [xw, p0, p1, p2, p3]
  go_upto_region 3 with (fail)
  refine wp_region_lit ?_
  have m7 : y9.cell? ⟨z3, 0, none⟩ = some (.slice vo vl vk) := hd.out.1 0 (by decide)
  refine xm [some (.slice vo vl vk), some (.int .i64 (c)), some (.slice vo vl vk), some (.int .i64 (c))] (by kernel_rfl) (by simp [xr, go_sem, m7]) ?_
  simp only [xw, p0, p1, p2, p3]
  clear m7
  go_wp2
  refine bodyPost_ret (res2 rfl _ _ _) rfl ?_
  exact ⟨vo, vl, vk, c, rfl, hP.out.low hBy.out, hE.out⟩
set_option maxRecDepth 20000 in
set_option maxHeartbeats 4000000 in
theorem ans_shut {F : Nat → Prop} {p C : Nat} {M : MLoc} {w : World} (s : MSt) (hM : MdM F p s C M w) (hop : s.op = false) (bm bn : Nat) (n : Int) (hm : RowAt bm 1 (fun _ => .pointer (some ⟨p, 0, none⟩)) w) (hn : RowAt bn 1 (fun _ => .int .i64 n) w) : Calls Try.prog 23 #[.pointer (some ⟨p, 0, none⟩), .func (.func 24) #[] #[.pointer (some ⟨bm, 0, none⟩), .pointer (some ⟨bn, 0, none⟩)]] w fun e w' => e = .returned (.tuple #[.slice none 0 0, .int .i64 6]) ∧ Ext w w' := by
  replace hM := hideit hM
  replace hm := hideit hm
  replace hn := hideit hn
  replace hop := hideit hop
  have hE := hideit (Ext.refl w)
  go_enter Try.func23, Try.ntmps23
  go_upto_region 0 with (fail)
  refine wp_region_lit ?_
  have A0 := hideit (row1_new w (.func (.func 24) #[] #[.pointer (some ⟨bm, 0, none⟩), .pointer (some ⟨bn, 0, none⟩)]) 69)
  have XB : Ext w (w.alloc (.cells #[.func (.func 24) #[] #[.pointer (some ⟨bm, 0, none⟩), .pointer (some ⟨bn, 0, none⟩)]] 69)) := (Below.refl _ _).alloc (Nat.le_refl _) _
  have A1 := hideit (hm.out.carry XB)
  have A2 := hideit (hn.out.carry XB)
  have L0 := hideit (hM.out.ext XB)
  have AE := hideit (Ext.trans hE.out (XB))
  have AB := hideit (hE.out.size)
  have D0 : Hid (bm ≠ w.heap.size) := Nat.ne_of_lt hm.out.2.2
  have D1 : Hid (bn ≠ w.heap.size) := Nat.ne_of_lt hn.out.2.2
  clear XB
  refine wpList_to rfl (.pointer (some ⟨w.heap.size, 0, none⟩)) (w.alloc (.cells #[.func (.func 24) #[] #[.pointer (some ⟨bm, 0, none⟩), .pointer (some ⟨bn, 0, none⟩)]] 69)) (by simp [go_sem]) ?_
  simp only [Act.put, List.setIfInBounds_toArray, List.set_cons_zero, List.set_cons_succ]
  generalize w.alloc (.cells #[.func (.func 24) #[] #[.pointer (some ⟨bm, 0, none⟩), .pointer (some ⟨bn, 0, none⟩)]] 69) = x2 at A0 A1 A2 L0 AE ⊢
  obtain ⟨z1, ez1⟩ : ∃ b, b = w.heap.size := ⟨_, rfl⟩
  have ABz1 : Hid (w.heap.size ≤ z1) := by rw [ez1]; exact AB.out
  clear AB
  rw [← ez1] at A0 D0 D1 ⊢
  clear ez1
  have Hz1 := A0
  clear A0
  replace hm := A1
  clear A1
  replace hn := A2
  clear A2
  replace hM := L0
  clear L0
  replace hE := AE
  clear AE
  have Dz1_0 := D0
  clear D0
  have Dz1_1 := D1
  clear D1
  refine xm [some (.slice none 0 0), some (.int .i64 0)] (by kernel_rfl) (by simp [xr, go_sem]) ?_
  simp only [xw, p0, p1, p2, p3]
  go_upto_region 1 with (fail)
  refine wp_region_lit ?_
  have A0 := hideit (row1_new x2 (.slice none 0 0) 22)
  have XB : Ext x2 (x2.alloc (.cells #[.slice none 0 0] 22)) := (Below.refl _ _).alloc (Nat.le_refl _) _
  have A1 := hideit (hm.out.carry XB)
  have A2 := hideit (hn.out.carry XB)
  have A3 := hideit (Hz1.out.carry XB)
  have L0 := hideit (hM.out.ext XB)
  have AE := hideit (Ext.trans hE.out (XB))
  have AB := hideit (hE.out.size)
  have D0 : Hid (bm ≠ x2.heap.size) := Nat.ne_of_lt hm.out.2.2
  have D1 : Hid (bn ≠ x2.heap.size) := Nat.ne_of_lt hn.out.2.2
  have D2 : Hid (z1 ≠ x2.heap.size) := Nat.ne_of_lt Hz1.out.2.2
  clear XB
  refine wpList_to rfl (.pointer (some ⟨x2.heap.size, 0, none⟩)) (x2.alloc (.cells #[.slice none 0 0] 22)) (by simp [go_sem]) ?_
  simp only [Act.put, List.setIfInBounds_toArray, List.set_cons_zero, List.set_cons_succ]
  generalize x2.alloc (.cells #[.slice none 0 0] 22) = x4 at A0 A1 A2 A3 L0 AE ⊢
  obtain ⟨z3, ez3⟩ : ∃ b, b = x2.heap.size := ⟨_, rfl⟩
  have ABz3 : Hid (w.heap.size ≤ z3) := by rw [ez3]; exact AB.out
  clear AB
  rw [← ez3] at A0 D0 D1 D2 ⊢
  clear ez3
  have Hz3 := A0
  clear A0
  replace hm := A1
  clear A1
  replace hn := A2
  clear A2
  replace Hz1 := A3
  clear A3
  replace hM := L0
  clear L0
  replace hE := AE
  clear AE
  have Dz3_0 := D0
  clear D0
  have Dz3_1 := D1
  clear D1
  have Dz3_2 := D2
  clear D2
  go_upto_region 2 with (fail)
  refine wp_region_lit ?_
  refine xm [some (.pointer (some ⟨p, 0, none⟩)), some (.func (.func 58) #[] #[.pointer (some ⟨z1, 0, none⟩), .pointer (some ⟨z3, 0, none⟩)])] (by kernel_rfl) (by simp [xr, go_sem]) ?_
  simp only [xw, p0, p1, p2, p3]
  have A0 := hideit (RowAt.newOf x4 1 (fnV (fun i => [58].getD i 0) (fun i => [#[]].getD i #[]) (fun i => [#[.pointer (some ⟨z1, 0, none⟩), .pointer (some ⟨z3, 0, none⟩)]].getD i #[])) 47 #[.func (.func 58) #[] #[.pointer (some ⟨z1, 0, none⟩), .pointer (some ⟨z3, 0, none⟩)]] (fun j hj => by rcases (by omega : j = 0) with rfl <;> rfl))
  have XB : Ext x4 (x4.alloc (.cells #[.func (.func 58) #[] #[.pointer (some ⟨z1, 0, none⟩), .pointer (some ⟨z3, 0, none⟩)]] 47)) := (Below.refl _ _).alloc (Nat.le_refl _) _
  have A1 := hideit (hm.out.carry XB)
  have A2 := hideit (hn.out.carry XB)
  have A3 := hideit (Hz1.out.carry XB)
  have A4 := hideit (Hz3.out.carry XB)
  have L0 := hideit (hM.out.ext XB)
  have AE := hideit (Ext.trans hE.out (XB))
  have AB := hideit (hE.out.size)
  have D0 : Hid (bm ≠ x4.heap.size) := Nat.ne_of_lt hm.out.2.2
  have D1 : Hid (bn ≠ x4.heap.size) := Nat.ne_of_lt hn.out.2.2
  have D2 : Hid (z1 ≠ x4.heap.size) := Nat.ne_of_lt Hz1.out.2.2
  have D3 : Hid (z3 ≠ x4.heap.size) := Nat.ne_of_lt Hz3.out.2.2
  clear XB
  refine wpList_to rfl (.slice (some ⟨x4.heap.size, 0, none⟩) 1 1) (x4.alloc (.cells #[.func (.func 58) #[] #[.pointer (some ⟨z1, 0, none⟩), .pointer (some ⟨z3, 0, none⟩)]] 47)) (by simp [go_sem]) ?_
  simp only [Act.put, List.setIfInBounds_toArray, List.set_cons_zero, List.set_cons_succ]
  generalize x4.alloc (.cells #[.func (.func 58) #[] #[.pointer (some ⟨z1, 0, none⟩), .pointer (some ⟨z3, 0, none⟩)]] 47) = x6 at A0 A1 A2 A3 A4 L0 AE ⊢
  obtain ⟨z5, ez5⟩ : ∃ b, b = x4.heap.size := ⟨_, rfl⟩
  have ABz5 : Hid (w.heap.size ≤ z5) := by rw [ez5]; exact AB.out
  clear AB
  rw [← ez5] at A0 D0 D1 D2 D3 ⊢
  clear ez5
  have Hz5 := A0
  clear A0
  replace hm := A1
  clear A1
  replace hn := A2
  clear A2
  replace Hz1 := A3
  clear A3
  replace Hz3 := A4
  clear A4
  replace hM := L0
  clear L0
  replace hE := AE
  clear AE
  have Dz5_0 := D0
  clear D0
  have Dz5_1 := D1
  clear D1
  have Dz5_2 := D2
  clear D2
  have Dz5_3 := D3
  clear D3
  refine wpList_call rfl (by simp [go_sem]) ((do_shut s.h M.sb M.pb s.ep s.r s.sl p (.slice (some ⟨z5, 0, none⟩) 1 1) x6 (hop.out ▸ hM.out.st)).mono ?_)
  rintro e yy ⟨rfl, hyy⟩
  refine ⟨_, rfl, ?_⟩
  simp only [Act.put, List.setIfInBounds_toArray, List.set_cons_zero, List.set_cons_succ]
  replace hyy := hyy.symm
  subst hyy
  refine xm [some (.int .i64 6)] (by kernel_rfl) (by simp [xr, go_sem]) ?_
  simp only [xw, p0, p1, p2, p3]
  go_upto_region 3 with (fail)
  refine wp_region_lit ?_
  have m7 : x6.cell? ⟨z3, 0, none⟩ = some (.slice none 0 0) := Hz3.out.1 0 (by decide)
  refine xm [some (.slice none 0 0), some (.int .i64 6), some (.slice none 0 0), some (.int .i64 6)] (by kernel_rfl) (by simp [xr, go_sem, m7]) ?_
  simp only [xw, p0, p1, p2, p3]
  clear m7
  go_wp2
  refine bodyPost_ret (res2 rfl _ _ _) rfl ?_
  exact ⟨rfl, hE.out⟩
set_option maxRecDepth 20000 in
set_option maxHeartbeats 4000000 in
theorem read_open {F : Nat → Prop} {p C : Nat} {M : MLoc} {w : World} (s : MSt) (hM : MdM F p s C M w) (hop : s.op = true) (n : Int) (hok : okI n) : Calls Try.prog 5 #[.pointer (some ⟨p, 0, none⟩), .int .i64 n] w fun e w' => ∃ vo vl vk c, e = .returned (.tuple #[.slice vo vl vk, .int .i64 c]) ∧ RdP s n w.heap.size (.slice vo vl vk) c w' ∧ Ext w w' := by
  replace hM := hideit hM
  replace hok := hideit hok
  replace hop := hideit hop
  have hE := hideit (Ext.refl w)
  go_enter Try.func5, Try.ntmps5
  go_upto_region 0 with (fail)
  refine wp_region_lit ?_
  have A0 := hideit (row1_new w (.pointer (some ⟨p, 0, none⟩)) 26)
  have XB : Ext w (w.alloc (.cells #[.pointer (some ⟨p, 0, none⟩)] 26)) := (Below.refl _ _).alloc (Nat.le_refl _) _
  have L0 := hideit (hM.out.ext XB)
  have AE := hideit (Ext.trans hE.out (XB))
  have AB := hideit (hE.out.size)
  clear XB
  refine wpList_to rfl (.pointer (some ⟨w.heap.size, 0, none⟩)) (w.alloc (.cells #[.pointer (some ⟨p, 0, none⟩)] 26)) (by simp [go_sem]) ?_
  simp only [Act.put, List.setIfInBounds_toArray, List.set_cons_zero, List.set_cons_succ]
  generalize w.alloc (.cells #[.pointer (some ⟨p, 0, none⟩)] 26) = x2 at A0 L0 AE ⊢
  obtain ⟨z1, ez1⟩ : ∃ b, b = w.heap.size := ⟨_, rfl⟩
  have ABz1 : Hid (w.heap.size ≤ z1) := by rw [ez1]; exact AB.out
  clear AB
  rw [← ez1] at A0  ⊢
  clear ez1
  have Hz1 := A0
  clear A0
  replace hM := L0
  clear L0
  replace hE := AE
  clear AE
  have A0 := hideit (row1_new x2 (.int .i64 (n)) 3)
  have XB : Ext x2 (x2.alloc (.cells #[.int .i64 (n)] 3)) := (Below.refl _ _).alloc (Nat.le_refl _) _
  have A1 := hideit (Hz1.out.carry XB)
  have L0 := hideit (hM.out.ext XB)
  have AE := hideit (Ext.trans hE.out (XB))
  have AB := hideit (hE.out.size)
  have D0 : Hid (z1 ≠ x2.heap.size) := Nat.ne_of_lt Hz1.out.2.2
  clear XB
  refine wpList_to rfl (.pointer (some ⟨x2.heap.size, 0, none⟩)) (x2.alloc (.cells #[.int .i64 (n)] 3)) (by simp [go_sem]) ?_
  simp only [Act.put, List.setIfInBounds_toArray, List.set_cons_zero, List.set_cons_succ]
  generalize x2.alloc (.cells #[.int .i64 (n)] 3) = x4 at A0 A1 L0 AE ⊢
  obtain ⟨z3, ez3⟩ : ∃ b, b = x2.heap.size := ⟨_, rfl⟩
  have ABz3 : Hid (w.heap.size ≤ z3) := by rw [ez3]; exact AB.out
  clear AB
  rw [← ez3] at A0 D0 ⊢
  clear ez3
  have Hz3 := A0
  clear A0
  replace Hz1 := A1
  clear A1
  replace hM := L0
  clear L0
  replace hE := AE
  clear AE
  have Dz3_0 := D0
  clear D0
  refine xm [some (.slice none 0 0), some (.int .i64 0)] (by kernel_rfl) (by simp [xr, go_sem]) ?_
  simp only [xw, p0, p1, p2, p3]
  go_upto_region 1 with (fail)
  refine wp_region_lit ?_
  have m5 : x4.cell? ⟨z1, 0, none⟩ = some (.pointer (some ⟨p, 0, none⟩)) := Hz1.out.1 0 (by decide)
  refine xm [some (.pointer (some ⟨p, 0, none⟩)), some (.func (.func 24) #[] #[.pointer (some ⟨z1, 0, none⟩), .pointer (some ⟨z3, 0, none⟩)])] (by kernel_rfl) (by simp [xr, go_sem, m5]) ?_
  simp only [xw, p0, p1, p2, p3]
  clear m5
  have hBy := hideit hE.out.size
  refine wpList_call rfl (by simp [go_sem]) ((ans_open s hM.out hop.out z1 z3 n Hz1.out Hz3.out hok.out).mono ?_)
  rintro e y9 ⟨vo, vl, vk, c, rfl, hP, hX9⟩
  refine ⟨_, rfl, ?_⟩
  simp only [Act.put, List.setIfInBounds_toArray, List.set_cons_zero, List.set_cons_succ]
  replace Hz1 := hideit (Hz1.out.carry hX9)
  replace Hz3 := hideit (Hz3.out.carry hX9)
  replace hM := hideit (hM.out.ext hX9)
  replace hE := hideit (Ext.trans hE.out (hX9))
  replace hP := hideit hP
  clear hX9
  refine xm [some (.slice vo vl vk), some (.int .i64 (c)), some (.slice vo vl vk), some (.int .i64 (c))] (by kernel_rfl) (by simp [xr, go_sem]) ?_
  simp only [xw, p0, p1, p2, p3]
  go_wp2
  refine bodyPost_ret (res2 rfl _ _ _) rfl ?_
  exact ⟨vo, vl, vk, c, rfl, hP.out.low hBy.out, hE.out⟩
set_option maxRecDepth 20000 in
set_option maxHeartbeats 4000000 in
theorem read_shut {F : Nat → Prop} {p C : Nat} {M : MLoc} {w : World} (s : MSt) (hM : MdM F p s C M w) (hop : s.op = false) (n : Int) : Calls Try.prog 5 #[.pointer (some ⟨p, 0, none⟩), .int .i64 n] w fun e w' => e = .returned (.tuple #[.slice none 0 0, .int .i64 6]) ∧ Ext w w' := by
  replace hM := hideit hM
  replace hop := hideit hop
  have hE := hideit (Ext.refl w)
  go_enter Try.func5, Try.ntmps5
  go_upto_region 0 with (fail)
  refine wp_region_lit ?_
  have A0 := hideit (row1_new w (.pointer (some ⟨p, 0, none⟩)) 26)
  have XB : Ext w (w.alloc (.cells #[.pointer (some ⟨p, 0, none⟩)] 26)) := (Below.refl _ _).alloc (Nat.le_refl _) _
  have L0 := hideit (hM.out.ext XB)
  have AE := hideit (Ext.trans hE.out (XB))
  have AB := hideit (hE.out.size)
  clear XB
  refine wpList_to rfl (.pointer (some ⟨w.heap.size, 0, none⟩)) (w.alloc (.cells #[.pointer (some ⟨p, 0, none⟩)] 26)) (by simp [go_sem]) ?_
  simp only [Act.put, List.setIfInBounds_toArray, List.set_cons_zero, List.set_cons_succ]
  generalize w.alloc (.cells #[.pointer (some ⟨p, 0, none⟩)] 26) = x2 at A0 L0 AE ⊢
  obtain ⟨z1, ez1⟩ : ∃ b, b = w.heap.size := ⟨_, rfl⟩
  have ABz1 : Hid (w.heap.size ≤ z1) := by rw [ez1]; exact AB.out
  clear AB
  rw [← ez1] at A0  ⊢
  clear ez1
  have Hz1 := A0
  clear A0
  replace hM := L0
  clear L0
  replace hE := AE
  clear AE
  have A0 := hideit (row1_new x2 (.int .i64 (n)) 3)
  have XB : Ext x2 (x2.alloc (.cells #[.int .i64 (n)] 3)) := (Below.refl _ _).alloc (Nat.le_refl _) _
  have A1 := hideit (Hz1.out.carry XB)
  have L0 := hideit (hM.out.ext XB)
  have AE := hideit (Ext.trans hE.out (XB))
  have AB := hideit (hE.out.size)
  have D0 : Hid (z1 ≠ x2.heap.size) := Nat.ne_of_lt Hz1.out.2.2
  clear XB
  refine wpList_to rfl (.pointer (some ⟨x2.heap.size, 0, none⟩)) (x2.alloc (.cells #[.int .i64 (n)] 3)) (by simp [go_sem]) ?_
  simp only [Act.put, List.setIfInBounds_toArray, List.set_cons_zero, List.set_cons_succ]
  generalize x2.alloc (.cells #[.int .i64 (n)] 3) = x4 at A0 A1 L0 AE ⊢
  obtain ⟨z3, ez3⟩ : ∃ b, b = x2.heap.size := ⟨_, rfl⟩
  have ABz3 : Hid (w.heap.size ≤ z3) := by rw [ez3]; exact AB.out
  clear AB
  rw [← ez3] at A0 D0 ⊢
  clear ez3
  have Hz3 := A0
  clear A0
  replace Hz1 := A1
  clear A1
  replace hM := L0
  clear L0
  replace hE := AE
  clear AE
  have Dz3_0 := D0
  clear D0
  refine xm [some (.slice none 0 0), some (.int .i64 0)] (by kernel_rfl) (by simp [xr, go_sem]) ?_
  simp only [xw, p0, p1, p2, p3]
  go_upto_region 1 with (fail)
  refine wp_region_lit ?_
  have m5 : x4.cell? ⟨z1, 0, none⟩ = some (.pointer (some ⟨p, 0, none⟩)) := Hz1.out.1 0 (by decide)
  refine xm [some (.pointer (some ⟨p, 0, none⟩)), some (.func (.func 24) #[] #[.pointer (some ⟨z1, 0, none⟩), .pointer (some ⟨z3, 0, none⟩)])] (by kernel_rfl) (by simp [xr, go_sem, m5]) ?_
  simp only [xw, p0, p1, p2, p3]
  clear m5
  refine wpList_call rfl (by simp [go_sem]) ((ans_shut s hM.out hop.out z1 z3 n Hz1.out Hz3.out).mono ?_)
  rintro e y6 ⟨rfl, hX7⟩
  refine ⟨_, rfl, ?_⟩
  simp only [Act.put, List.setIfInBounds_toArray, List.set_cons_zero, List.set_cons_succ]
  replace Hz1 := hideit (Hz1.out.carry hX7)
  replace Hz3 := hideit (Hz3.out.carry hX7)
  replace hM := hideit (hM.out.ext hX7)
  replace hE := hideit (Ext.trans hE.out (hX7))

  clear hX7
  refine xm [some (.slice none 0 0), some (.int .i64 6), some (.slice none 0 0), some (.int .i64 6)] (by kernel_rfl) (by simp [xr, go_sem]) ?_
  simp only [xw, p0, p1, p2, p3]
  go_wp2
  refine bodyPost_ret (res2 rfl _ _ _) rfl ?_
  exact ⟨rfl, hE.out⟩
set_option maxRecDepth 20000 in
set_option maxHeartbeats 4000000 in
theorem ans_nil (bm bn : Nat) (w : World) : Calls Try.prog 23 #[.pointer none, .func (.func 24) #[] #[.pointer (some ⟨bm, 0, none⟩), .pointer (some ⟨bn, 0, none⟩)]] w fun e w' => e = .returned (.tuple #[.slice none 0 0, .int .i64 6]) ∧ Ext w w' := by
  have hE := hideit (Ext.refl w)
  go_enter Try.func23, Try.ntmps23
  go_upto_region 0 with (fail)
  refine wp_region_lit ?_
  have A0 := hideit (row1_new w (.func (.func 24) #[] #[.pointer (some ⟨bm, 0, none⟩), .pointer (some ⟨bn, 0, none⟩)]) 69)
  have XB : Ext w (w.alloc (.cells #[.func (.func 24) #[] #[.pointer (some ⟨bm, 0, none⟩), .pointer (some ⟨bn, 0, none⟩)]] 69)) := (Below.refl _ _).alloc (Nat.le_refl _) _
  have AE := hideit (Ext.trans hE.out (XB))
  have AB := hideit (hE.out.size)
  clear XB
  refine wpList_to rfl (.pointer (some ⟨w.heap.size, 0, none⟩)) (w.alloc (.cells #[.func (.func 24) #[] #[.pointer (some ⟨bm, 0, none⟩), .pointer (some ⟨bn, 0, none⟩)]] 69)) (by simp [go_sem]) ?_
  simp only [Act.put, List.setIfInBounds_toArray, List.set_cons_zero, List.set_cons_succ]
  generalize w.alloc (.cells #[.func (.func 24) #[] #[.pointer (some ⟨bm, 0, none⟩), .pointer (some ⟨bn, 0, none⟩)]] 69) = x2 at A0 AE ⊢
  obtain ⟨z1, ez1⟩ : ∃ b, b = w.heap.size := ⟨_, rfl⟩
  have ABz1 : Hid (w.heap.size ≤ z1) := by rw [ez1]; exact AB.out
  clear AB
  rw [← ez1] at A0  ⊢
  clear ez1
  have Hz1 := A0
  clear A0
  replace hE := AE
  clear AE
  refine xm [some (.slice none 0 0), some (.int .i64 0)] (by kernel_rfl) (by simp [xr, go_sem]) ?_
  simp only [xw, p0, p1, p2, p3]
  go_upto_region 1 with (fail)
  refine wp_region_lit ?_
  have A0 := hideit (row1_new x2 (.slice none 0 0) 22)
  have XB : Ext x2 (x2.alloc (.cells #[.slice none 0 0] 22)) := (Below.refl _ _).alloc (Nat.le_refl _) _
  have A1 := hideit (Hz1.out.carry XB)
  have AE := hideit (Ext.trans hE.out (XB))
  have AB := hideit (hE.out.size)
  have D0 : Hid (z1 ≠ x2.heap.size) := Nat.ne_of_lt Hz1.out.2.2
  clear XB
  refine wpList_to rfl (.pointer (some ⟨x2.heap.size, 0, none⟩)) (x2.alloc (.cells #[.slice none 0 0] 22)) (by simp [go_sem]) ?_
  simp only [Act.put, List.setIfInBounds_toArray, List.set_cons_zero, List.set_cons_succ]
  generalize x2.alloc (.cells #[.slice none 0 0] 22) = x4 at A0 A1 AE ⊢
  obtain ⟨z3, ez3⟩ : ∃ b, b = x2.heap.size := ⟨_, rfl⟩
  have ABz3 : Hid (w.heap.size ≤ z3) := by rw [ez3]; exact AB.out
  clear AB
  rw [← ez3] at A0 D0 ⊢
  clear ez3
  have Hz3 := A0
  clear A0
  replace Hz1 := A1
  clear A1
  replace hE := AE
  clear AE
  have Dz3_0 := D0
  clear D0
  go_upto_region 2 with (fail)
  refine wp_region_lit ?_
  refine xm [some (.pointer none), some (.func (.func 58) #[] #[.pointer (some ⟨z1, 0, none⟩), .pointer (some ⟨z3, 0, none⟩)])] (by kernel_rfl) (by simp [xr, go_sem]) ?_
  simp only [xw, p0, p1, p2, p3]
  have A0 := hideit (RowAt.newOf x4 1 (fnV (fun i => [58].getD i 0) (fun i => [#[]].getD i #[]) (fun i => [#[.pointer (some ⟨z1, 0, none⟩), .pointer (some ⟨z3, 0, none⟩)]].getD i #[])) 47 #[.func (.func 58) #[] #[.pointer (some ⟨z1, 0, none⟩), .pointer (some ⟨z3, 0, none⟩)]] (fun j hj => by rcases (by omega : j = 0) with rfl <;> rfl))
  have XB : Ext x4 (x4.alloc (.cells #[.func (.func 58) #[] #[.pointer (some ⟨z1, 0, none⟩), .pointer (some ⟨z3, 0, none⟩)]] 47)) := (Below.refl _ _).alloc (Nat.le_refl _) _
  have A1 := hideit (Hz1.out.carry XB)
  have A2 := hideit (Hz3.out.carry XB)
  have AE := hideit (Ext.trans hE.out (XB))
  have AB := hideit (hE.out.size)
  have D0 : Hid (z1 ≠ x4.heap.size) := Nat.ne_of_lt Hz1.out.2.2
  have D1 : Hid (z3 ≠ x4.heap.size) := Nat.ne_of_lt Hz3.out.2.2
  clear XB
  refine wpList_to rfl (.slice (some ⟨x4.heap.size, 0, none⟩) 1 1) (x4.alloc (.cells #[.func (.func 58) #[] #[.pointer (some ⟨z1, 0, none⟩), .pointer (some ⟨z3, 0, none⟩)]] 47)) (by simp [go_sem]) ?_
  simp only [Act.put, List.setIfInBounds_toArray, List.set_cons_zero, List.set_cons_succ]
  generalize x4.alloc (.cells #[.func (.func 58) #[] #[.pointer (some ⟨z1, 0, none⟩), .pointer (some ⟨z3, 0, none⟩)]] 47) = x6 at A0 A1 A2 AE ⊢
  obtain ⟨z5, ez5⟩ : ∃ b, b = x4.heap.size := ⟨_, rfl⟩
  have ABz5 : Hid (w.heap.size ≤ z5) := by rw [ez5]; exact AB.out
  clear AB
  rw [← ez5] at A0 D0 D1 ⊢
  clear ez5
  have Hz5 := A0
  clear A0
  replace Hz1 := A1
  clear A1
  replace Hz3 := A2
  clear A2
  replace hE := AE
  clear AE
  have Dz5_0 := D0
  clear D0
  have Dz5_1 := D1
  clear D1
  refine wpList_call rfl (by simp [go_sem]) ((do_nil (.slice (some ⟨z5, 0, none⟩) 1 1) x6).mono ?_)
  rintro e yy ⟨rfl, hyy⟩
  refine ⟨_, rfl, ?_⟩
  simp only [Act.put, List.setIfInBounds_toArray, List.set_cons_zero, List.set_cons_succ]
  replace hyy := hyy.symm
  subst hyy
  refine xm [some (.int .i64 6)] (by kernel_rfl) (by simp [xr, go_sem]) ?_
  simp only [xw, p0, p1, p2, p3]
  go_upto_region 3 with (fail)
  refine wp_region_lit ?_
  have m7 : x6.cell? ⟨z3, 0, none⟩ = some (.slice none 0 0) := Hz3.out.1 0 (by decide)
  refine xm [some (.slice none 0 0), some (.int .i64 6), some (.slice none 0 0), some (.int .i64 6)] (by kernel_rfl) (by simp [xr, go_sem, m7]) ?_
  simp only [xw, p0, p1, p2, p3]
  clear m7
  go_wp2
  refine bodyPost_ret (res2 rfl _ _ _) rfl ?_
  exact ⟨rfl, hE.out⟩
set_option maxRecDepth 20000 in
set_option maxHeartbeats 4000000 in
theorem nil_read (n : Int) (w : World) : Calls Try.prog 5 #[.pointer none, .int .i64 n] w fun e w' => e = .returned (.tuple #[.slice none 0 0, .int .i64 6]) ∧ Ext w w' := by
  have hE := hideit (Ext.refl w)
  go_enter Try.func5, Try.ntmps5
  go_upto_region 0 with (fail)
  refine wp_region_lit ?_
  have A0 := hideit (row1_new w (.pointer none) 26)
  have XB : Ext w (w.alloc (.cells #[.pointer none] 26)) := (Below.refl _ _).alloc (Nat.le_refl _) _
  have AE := hideit (Ext.trans hE.out (XB))
  have AB := hideit (hE.out.size)
  clear XB
  refine wpList_to rfl (.pointer (some ⟨w.heap.size, 0, none⟩)) (w.alloc (.cells #[.pointer none] 26)) (by simp [go_sem]) ?_
  simp only [Act.put, List.setIfInBounds_toArray, List.set_cons_zero, List.set_cons_succ]
  generalize w.alloc (.cells #[.pointer none] 26) = x2 at A0 AE ⊢
  obtain ⟨z1, ez1⟩ : ∃ b, b = w.heap.size := ⟨_, rfl⟩
  have ABz1 : Hid (w.heap.size ≤ z1) := by rw [ez1]; exact AB.out
  clear AB
  rw [← ez1] at A0  ⊢
  clear ez1
  have Hz1 := A0
  clear A0
  replace hE := AE
  clear AE
  have A0 := hideit (row1_new x2 (.int .i64 (n)) 3)
  have XB : Ext x2 (x2.alloc (.cells #[.int .i64 (n)] 3)) := (Below.refl _ _).alloc (Nat.le_refl _) _
  have A1 := hideit (Hz1.out.carry XB)
  have AE := hideit (Ext.trans hE.out (XB))
  have AB := hideit (hE.out.size)
  have D0 : Hid (z1 ≠ x2.heap.size) := Nat.ne_of_lt Hz1.out.2.2
  clear XB
  refine wpList_to rfl (.pointer (some ⟨x2.heap.size, 0, none⟩)) (x2.alloc (.cells #[.int .i64 (n)] 3)) (by simp [go_sem]) ?_
  simp only [Act.put, List.setIfInBounds_toArray, List.set_cons_zero, List.set_cons_succ]
  generalize x2.alloc (.cells #[.int .i64 (n)] 3) = x4 at A0 A1 AE ⊢
  obtain ⟨z3, ez3⟩ : ∃ b, b = x2.heap.size := ⟨_, rfl⟩
  have ABz3 : Hid (w.heap.size ≤ z3) := by rw [ez3]; exact AB.out
  clear AB
  rw [← ez3] at A0 D0 ⊢
  clear ez3
  have Hz3 := A0
  clear A0
  replace Hz1 := A1
  clear A1
  replace hE := AE
  clear AE
  have Dz3_0 := D0
  clear D0
  refine xm [some (.slice none 0 0), some (.int .i64 0)] (by kernel_rfl) (by simp [xr, go_sem]) ?_
  simp only [xw, p0, p1, p2, p3]
  go_upto_region 1 with (fail)
  refine wp_region_lit ?_
  have m5 : x4.cell? ⟨z1, 0, none⟩ = some (.pointer none) := Hz1.out.1 0 (by decide)
  refine xm [some (.pointer none), some (.func (.func 24) #[] #[.pointer (some ⟨z1, 0, none⟩), .pointer (some ⟨z3, 0, none⟩)])] (by kernel_rfl) (by simp [xr, go_sem, m5]) ?_
  simp only [xw, p0, p1, p2, p3]
  clear m5
  refine wpList_call rfl (by simp [go_sem]) ((ans_nil z1 z3 x4).mono ?_)
  rintro e y6 ⟨rfl, hX7⟩
  refine ⟨_, rfl, ?_⟩
  simp only [Act.put, List.setIfInBounds_toArray, List.set_cons_zero, List.set_cons_succ]
  replace Hz1 := hideit (Hz1.out.carry hX7)
  replace Hz3 := hideit (Hz3.out.carry hX7)
  replace hE := hideit (Ext.trans hE.out (hX7))

  clear hX7
  refine xm [some (.slice none 0 0), some (.int .i64 6), some (.slice none 0 0), some (.int .i64 6)] (by kernel_rfl) (by simp [xr, go_sem]) ?_
  simp only [xw, p0, p1, p2, p3]
  go_wp2
  refine bodyPost_ret (res2 rfl _ _ _) rfl ?_
  exact ⟨rfl, hE.out⟩
end Go.Proofs.Ytcipkfalnjgghaa
