/-
  Info.
-/
import Derived.Test.YtcipkfalnjgghaaMd24
import Derived.Test.YtcipkfalnjgghaaMd8
namespace Go.Proofs.Ytcipkfalnjgghaa
open Go.RowKit Go.BigFrame Go.Maps
set_option linter.unusedVariables false
set_option maxRecDepth 20000 in
set_option maxHeartbeats 4000000 in
theorem t61_any {F : Nat → Prop} {p C : Nat} {M : MLoc} {w : World} (s : MSt) (hM : MdM F p s C M w) (hR : okR s.h s.r) (cs d : Nat) (hc : RowAt cs 1 (fun _ => .func (.func 29) #[.pointer (some ⟨p, 0, none⟩)] #[]) w) (hd : RowAt d 29 (ifV zH 0 (.slice none 0 0) 0 0 0#64) w) (ncs : cs ≠ d) : Calls Try.prog 61 #[.pointer (some ⟨cs, 0, none⟩), .pointer (some ⟨d, 0, none⟩)] w fun e w' => ∃ z, e = .returned (.int .i64 0) ∧ w.heap.size ≤ z ∧ RowAt z s.h.sl.toNat (fun j => .bool (tkF s j)) w' ∧ Keeps (fun i => i = d) w w' ∧ RowAt d 29 (ifS s z) w' := by
  have hdl := hideit hd.2.2
  replace hM := hideit hM
  replace hR := hideit hR
  replace hc := hideit hc
  replace hd := hideit hd
  replace ncs := hideit ncs
  have hE := hideit (Keeps.refl (fun i => i = d) w)
  go_enter Try.func61, Try.ntmps61
  go_upto_region 1 with (fail)
  refine wp_region_lit ?_
  have m1 : w.cell? ⟨cs, 0, none⟩ = some (.func (.func 29) #[.pointer (some ⟨p, 0, none⟩)] #[]) := hc.out.1 0 (by decide)
  refine xm [some (.func (.func 29) #[.pointer (some ⟨p, 0, none⟩)] #[])] (by kernel_rfl) (by simp [xr, go_sem, m1]) ?_
  simp only [xw, p0, p1, p2, p3]
  clear m1
  refine wpList_call rfl (by simp [go_sem]) ((info_any s hM.out hR.out).mono ?_)
  rintro e y1 ⟨z, rfl, hz1, hz2, hX1⟩
  refine ⟨_, rfl, ?_⟩
  simp only [Act.put, List.setIfInBounds_toArray, List.set_cons_zero, List.set_cons_succ]
  replace hc := hideit (hc.out.carry hX1)
  replace hd := hideit (hd.out.carry hX1)
  replace hM := hideit (hM.out.ext hX1)
  replace hE := hideit (Keeps.ext hE.out (hX1))
  have hdz : Hid (d ≠ z) := by have := hdl.out; have := hz1; show d ≠ z; omega
  replace hz1 := hideit hz1
  replace hz2 := hideit hz2
  clear hX1 hM hc
  refine xm [some (.tuple #[.agg (row 29 (ifS s z)).toArray, .int .i64 0]), some (.agg (row 29 (ifS s z)).toArray), some (.int .i64 0)] (by kernel_rfl) (by simp [xr, go_sem]) ?_
  simp only [xw, p0, p1, p2, p3]
  have N0 := hideit (hd.out.cells (g' := ifS s z))
  have N1 := hideit (hz2.out.cellsOther (hdz.out) (row 29 (ifS s z)) 0)
  have NE := hideit (Keeps.cells (F := (fun i => i = d)) d (.inl rfl) (row 29 (ifS s z)) 0 _ hE.out)
  refine xst rfl (y1.setCells d 0 (row 29 (ifS s z))) (xstore 40 (.tmp 1) (.tmp 6) rfl d 29 _ (ifS s z) rfl rfl hd.out infoI (fun j _ => ifs_one _ _ j)) ?_
  simp only [Act.put]
  generalize y1.setCells d 0 (row 29 (ifS s z)) = x2 at N0 N1 NE ⊢
  replace hd := N0
  replace hz2 := N1
  replace hE := NE
  clear N0 N1 NE
  refine xm [some (.int .i64 0)] (by kernel_rfl) (by simp [xr, go_sem]) ?_
  simp only [xw, p0, p1, p2, p3]
  go_upto_region 2 with (fail)
  refine wp_region_lit ?_
  refine xm [some (.int .i64 0), some (.int .i64 0)] (by kernel_rfl) (by simp [xr, go_sem]) ?_
  simp only [xw, p0, p1, p2, p3]
  go_wp2
  go_ret
  exact ⟨z, rfl, hz1.out, hz2.out, hE.out, hd.out⟩
theorem if_do {F : Nat → Prop} {p C : Nat} {M : MLoc} {w : World} (s : MSt) (hM : MdM F p s C M w) (hop : s.op = true) (hR : okR s.h s.r) (cs d bs : Nat) (hc : RowAt cs 1 (fun _ => .func (.func 29) #[.pointer (some ⟨p, 0, none⟩)] #[]) w) (hd : RowAt d 29 (ifV zH 0 (.slice none 0 0) 0 0 0#64) w) (hB : RowAt bs 1 (fnV (fun i => [61].getD i 0) (fun i => [#[]].getD i #[]) (fun i => [#[.pointer (some ⟨cs, 0, none⟩), .pointer (some ⟨d, 0, none⟩)]].getD i #[])) w) (ncs : cs ≠ d) (nbs : bs ≠ d) :
    Calls Try.prog 33 #[.pointer (some ⟨p, 0, none⟩), .slice (some ⟨bs, 0, none⟩) 1 1] w fun e w' => ∃ c : Int, e = .returned (.int .i64 c) ∧ c = 0 ∧ ∃ z, w.heap.size ≤ z ∧ RowAt z s.h.sl.toNat (fun j => .bool (tkF s j)) w' ∧ Keeps (fun i => i = d) w w' ∧ RowAt d 29 (ifS s z) w' := by
  have hS := hM.st
  rw [hop] at hS
  refine do_one s.h M.sb M.pb s.ep s.r s.sl p bs (fun i => [61].getD i 0) (fun i => [#[]].getD i #[]) (fun i => [#[.pointer (some ⟨cs, 0, none⟩), .pointer (some ⟨d, 0, none⟩)]].getD i #[]) w hS hB (fun c W => c = 0 ∧ ∃ z, w.heap.size ≤ z ∧ RowAt z s.h.sl.toNat (fun j => .bool (tkF s j)) W ∧ Keeps (fun i => i = d) w W ∧ RowAt d 29 (ifS s z) W) (fun W ⟨_, z, _, _, hK, _⟩ => hB.keep hK nbs) (fun args X => by simp [go_sem]) ?_
  exact (t61_any s hM hR cs d hc hd ncs).mono fun e w' ⟨z, h1, h2⟩ => ⟨0, h1, rfl, z, h2⟩
set_option maxRecDepth 20000 in
set_option maxHeartbeats 4000000 in
theorem ansi_open {F : Nat → Prop} {p C : Nat} {M : MLoc} {w : World} (s : MSt) (hM : MdM F p s C M w) (hop : s.op = true) (hR : okR s.h s.r) : Calls Try.prog 28 #[.pointer (some ⟨p, 0, none⟩), .func (.func 29) #[.pointer (some ⟨p, 0, none⟩)] #[]] w fun e w' => ∃ z, e = .returned (.tuple #[.agg (row 29 (ifS s z)).toArray, .int .i64 0]) ∧ w.heap.size ≤ z ∧ RowAt z s.h.sl.toNat (fun j => .bool (tkF s j)) w' ∧ Ext w w' := by
  replace hM := hideit hM
  replace hop := hideit hop
  replace hR := hideit hR
  have hE := hideit (Ext.refl w)
  go_enter Try.func28, Try.ntmps28
  go_upto_region 0 with (fail)
  refine wp_region_lit ?_
  have A0 := hideit (row1_new w (.func (.func 29) #[.pointer (some ⟨p, 0, none⟩)] #[]) 42)
  have XB : Ext w (w.alloc (.cells #[.func (.func 29) #[.pointer (some ⟨p, 0, none⟩)] #[]] 42)) := (Below.refl _ _).alloc (Nat.le_refl _) _
  have L0 := hideit (hM.out.ext XB)
  have AE := hideit (Ext.trans hE.out (XB))
  have AB := hideit (hE.out.size)
  clear XB
  refine wpList_to rfl (.pointer (some ⟨w.heap.size, 0, none⟩)) (w.alloc (.cells #[.func (.func 29) #[.pointer (some ⟨p, 0, none⟩)] #[]] 42)) (by simp [go_sem]) ?_
  simp only [Act.put, List.setIfInBounds_toArray, List.set_cons_zero, List.set_cons_succ]
  generalize w.alloc (.cells #[.func (.func 29) #[.pointer (some ⟨p, 0, none⟩)] #[]] 42) = x2 at A0 L0 AE ⊢
  obtain ⟨z1, ez1⟩ : ∃ b, b = w.heap.size := ⟨_, rfl⟩
  have ABz1 : Hid (w.heap.size ≤ z1) := by rw [ez1]; exact AB.out
  clear AB
  rw [← ez1] at A0  ⊢
  clear ez1
  have Hz1 := A0
  clear A0
  replace hM := L0
  clear L0
  replace hE := AE
  clear AE
  have A0 := hideit (RowAt.new x2 29 (ifV zH 0 (.slice none 0 0) 0 0 0#64) 40)
  have XB : Ext x2 (x2.alloc (.cells (row 29 (ifV zH 0 (.slice none 0 0) 0 0 0#64)).toArray 40)) := (Below.refl _ _).alloc (Nat.le_refl _) _
  have A1 := hideit (Hz1.out.carry XB)
  have L0 := hideit (hM.out.ext XB)
  have AE := hideit (Ext.trans hE.out (XB))
  have AB := hideit (hE.out.size)
  have D0 : Hid (z1 ≠ x2.heap.size) := Nat.ne_of_lt Hz1.out.2.2
  clear XB
  refine wpList_to rfl (.pointer (some ⟨x2.heap.size, 0, none⟩)) (x2.alloc (.cells (row 29 (ifV zH 0 (.slice none 0 0) 0 0 0#64)).toArray 40)) (xalloc 40 _ rfl (zero40 _)) ?_
  simp only [Act.put, List.setIfInBounds_toArray, List.set_cons_zero, List.set_cons_succ]
  generalize x2.alloc (.cells (row 29 (ifV zH 0 (.slice none 0 0) 0 0 0#64)).toArray 40) = x3 at A0 A1 L0 AE ⊢
  obtain ⟨r4, er4⟩ : ∃ b, b = x2.heap.size := ⟨_, rfl⟩
  have ABr4 : Hid (w.heap.size ≤ r4) := by rw [er4]; exact AB.out
  clear AB
  rw [← er4] at A0 D0 ⊢
  clear er4
  have Hr4 := A0
  clear A0
  replace Hz1 := A1
  clear A1
  replace hM := L0
  clear L0
  replace hE := AE
  clear AE
  have Dr4_0 := D0
  clear D0
  refine xm [some (.int .i64 0)] (by kernel_rfl) (by simp [xr, go_sem]) ?_
  simp only [xw, p0, p1, p2, p3]
  go_upto_region 1 with (fail)
  refine wp_region_lit ?_
  have A0 := hideit (RowAt.new x3 29 (ifV zH 0 (.slice none 0 0) 0 0 0#64) 40)
  have XB : Ext x3 (x3.alloc (.cells (row 29 (ifV zH 0 (.slice none 0 0) 0 0 0#64)).toArray 40)) := (Below.refl _ _).alloc (Nat.le_refl _) _
  have A1 := hideit (Hz1.out.carry XB)
  have A2 := hideit (Hr4.out.carry XB)
  have L0 := hideit (hM.out.ext XB)
  have AE := hideit (Ext.trans hE.out (XB))
  have AB := hideit (hE.out.size)
  have D0 : Hid (z1 ≠ x3.heap.size) := Nat.ne_of_lt Hz1.out.2.2
  have D1 : Hid (r4 ≠ x3.heap.size) := Nat.ne_of_lt Hr4.out.2.2
  clear XB
  refine wpList_to rfl (.pointer (some ⟨x3.heap.size, 0, none⟩)) (x3.alloc (.cells (row 29 (ifV zH 0 (.slice none 0 0) 0 0 0#64)).toArray 40)) (xalloc 40 _ rfl (zero40 _)) ?_
  simp only [Act.put, List.setIfInBounds_toArray, List.set_cons_zero, List.set_cons_succ]
  generalize x3.alloc (.cells (row 29 (ifV zH 0 (.slice none 0 0) 0 0 0#64)).toArray 40) = x4 at A0 A1 A2 L0 AE ⊢
  obtain ⟨d, ed⟩ : ∃ b, b = x3.heap.size := ⟨_, rfl⟩
  have ABd : Hid (w.heap.size ≤ d) := by rw [ed]; exact AB.out
  clear AB
  rw [← ed] at A0 D0 D1 ⊢
  clear ed
  have Hd := A0
  clear A0
  replace Hz1 := A1
  clear A1
  replace Hr4 := A2
  clear A2
  replace hM := L0
  clear L0
  replace hE := AE
  clear AE
  have Dd_0 := D0
  clear D0
  have Dd_1 := D1
  clear D1
  go_upto_region 2 with (fail)
  refine wp_region_lit ?_
  refine xm [some (.pointer (some ⟨p, 0, none⟩)), some (.func (.func 61) #[] #[.pointer (some ⟨z1, 0, none⟩), .pointer (some ⟨d, 0, none⟩)])] (by kernel_rfl) (by simp [xr, go_sem]) ?_
  simp only [xw, p0, p1, p2, p3]
  have A0 := hideit (RowAt.newOf x4 1 (fnV (fun i => [61].getD i 0) (fun i => [#[]].getD i #[]) (fun i => [#[.pointer (some ⟨z1, 0, none⟩), .pointer (some ⟨d, 0, none⟩)]].getD i #[])) 47 #[.func (.func 61) #[] #[.pointer (some ⟨z1, 0, none⟩), .pointer (some ⟨d, 0, none⟩)]] (fun j hj => by rcases (by omega : j = 0) with rfl <;> rfl))
  have XB : Ext x4 (x4.alloc (.cells #[.func (.func 61) #[] #[.pointer (some ⟨z1, 0, none⟩), .pointer (some ⟨d, 0, none⟩)]] 47)) := (Below.refl _ _).alloc (Nat.le_refl _) _
  have A1 := hideit (Hz1.out.carry XB)
  have A2 := hideit (Hr4.out.carry XB)
  have A3 := hideit (Hd.out.carry XB)
  have L0 := hideit (hM.out.ext XB)
  have AE := hideit (Ext.trans hE.out (XB))
  have AB := hideit (hE.out.size)
  have D0 : Hid (z1 ≠ x4.heap.size) := Nat.ne_of_lt Hz1.out.2.2
  have D1 : Hid (r4 ≠ x4.heap.size) := Nat.ne_of_lt Hr4.out.2.2
  have D2 : Hid (d ≠ x4.heap.size) := Nat.ne_of_lt Hd.out.2.2
  clear XB
  refine wpList_to rfl (.slice (some ⟨x4.heap.size, 0, none⟩) 1 1) (x4.alloc (.cells #[.func (.func 61) #[] #[.pointer (some ⟨z1, 0, none⟩), .pointer (some ⟨d, 0, none⟩)]] 47)) (by simp [go_sem]) ?_
  simp only [Act.put, List.setIfInBounds_toArray, List.set_cons_zero, List.set_cons_succ]
  generalize x4.alloc (.cells #[.func (.func 61) #[] #[.pointer (some ⟨z1, 0, none⟩), .pointer (some ⟨d, 0, none⟩)]] 47) = x6 at A0 A1 A2 A3 L0 AE ⊢
  obtain ⟨z5, ez5⟩ : ∃ b, b = x4.heap.size := ⟨_, rfl⟩
  have ABz5 : Hid (w.heap.size ≤ z5) := by rw [ez5]; exact AB.out
  clear AB
  rw [← ez5] at A0 D0 D1 D2 ⊢
  clear ez5
  have Hz5 := A0
  clear A0
  replace Hz1 := A1
  clear A1
  replace Hr4 := A2
  clear A2
  replace Hd := A3
  clear A3
  replace hM := L0
  clear L0
  replace hE := AE
  clear AE
  have Dz5_0 := D0
  clear D0
  have Dz5_1 := D1
  clear D1
  have Dz5_2 := D2
  clear D2
  have kd := hideit (if_do s hM.out hop.out hR.out z1 d z5 Hz1.out Hd.out Hz5.out (Dd_0.out) (Ne.symm (Dz5_2.out)))
  have hBy := hideit (Below.size hE.out)
  have hrl := hideit Hr4.out.2.2
  refine wpList_call rfl (by simp [go_sem]) ((kd.out).mono ?_)
  rintro e y9 ⟨c, rfl, rfl, z, hz1, hz2, hK, hd⟩
  refine ⟨_, rfl, ?_⟩
  simp only [Act.put, List.setIfInBounds_toArray, List.set_cons_zero, List.set_cons_succ]
  have hr4 := hideit (Hr4.out.keep hK (Dd_1.out))
  have hrz : Hid (r4 ≠ z) := by have := hrl.out; show r4 ≠ z; omega
  replace hz1 : Hid (w.heap.size ≤ z) := by have := hBy.out; show w.heap.size ≤ z; omega
  replace hz2 := hideit hz2
  replace hd := hideit hd
  replace hE := hideit (Ext.keeps hE.out hK fun i e => by rw [e]; exact ABd.out)
  clear kd hM hK Hr4 Hz1 Hz5 Hd
  refine xm [some (.int .i64 0)] (by kernel_rfl) (by simp [xr, go_sem]) ?_
  simp only [xw, p0, p1, p2, p3]
  go_upto_region 3 with (fail)
  refine wp_region_lit ?_
  refine wpList_run rfl (.agg (row 29 (ifS s z)).toArray) (xload 40 (.tmp 6) rfl d 0 29 _ rfl hd.out.range Try.underlying40 rfl infoI) ?_
  simp only [Act.put, List.setIfInBounds_toArray, List.set_cons_zero, List.set_cons_succ]
  refine xm [some (.int .i64 0)] (by kernel_rfl) (by simp [xr, go_sem]) ?_
  simp only [xw, p0, p1, p2, p3]
  have N0 := hideit (hr4.out.cells (g' := ifS s z))
  have N1 := hideit (hd.out.cellsOther (Dd_1.out) (row 29 (ifS s z)) 0)
  have N2 := hideit (hz2.out.cellsOther (hrz.out) (row 29 (ifS s z)) 0)
  have NE := hideit (below_setCells r4 (ABr4.out) (row 29 (ifS s z)) 0 _ hE.out)
  refine xst rfl (y9.setCells r4 0 (row 29 (ifS s z))) (xstore 40 (.tmp 4) (.tmp 12) rfl r4 29 _ (ifS s z) rfl rfl hr4.out infoI (fun j _ => ifs_one _ _ j)) ?_
  simp only [Act.put]
  generalize y9.setCells r4 0 (row 29 (ifS s z)) = x7 at N0 N1 N2 NE ⊢
  replace hr4 := N0
  replace hd := N1
  replace hz2 := N2
  replace hE := NE
  clear N0 N1 N2 NE
  refine xm [some (.int .i64 0)] (by kernel_rfl) (by simp [xr, go_sem]) ?_
  simp only [xw, p0, p1, p2, p3]
  go_wp2
  refine bodyPost_ret (ret_row2 rfl rfl hr4.out Try.underlying40 rfl infoI) rfl ?_
  exact ⟨z, rfl, hz1.out, hz2.out, hE.out⟩
set_option maxRecDepth 20000 in
set_option maxHeartbeats 4000000 in
theorem ansi_shut {F : Nat → Prop} {p C : Nat} {M : MLoc} {w : World} (s : MSt) (hM : MdM F p s C M w) (hop : s.op = false) : Calls Try.prog 28 #[.pointer (some ⟨p, 0, none⟩), .func (.func 29) #[.pointer (some ⟨p, 0, none⟩)] #[]] w fun e w' => e = .returned (.tuple #[.agg (row 29 (ifV zH 0 (.slice none 0 0) 0 0 0#64)).toArray, .int .i64 6]) ∧ Ext w w' := by
  replace hM := hideit hM
  replace hop := hideit hop
  have hE := hideit (Ext.refl w)
  go_enter Try.func28, Try.ntmps28
  go_upto_region 0 with (fail)
  refine wp_region_lit ?_
  have A0 := hideit (row1_new w (.func (.func 29) #[.pointer (some ⟨p, 0, none⟩)] #[]) 42)
  have XB : Ext w (w.alloc (.cells #[.func (.func 29) #[.pointer (some ⟨p, 0, none⟩)] #[]] 42)) := (Below.refl _ _).alloc (Nat.le_refl _) _
  have L0 := hideit (hM.out.ext XB)
  have AE := hideit (Ext.trans hE.out (XB))
  have AB := hideit (hE.out.size)
  clear XB
  refine wpList_to rfl (.pointer (some ⟨w.heap.size, 0, none⟩)) (w.alloc (.cells #[.func (.func 29) #[.pointer (some ⟨p, 0, none⟩)] #[]] 42)) (by simp [go_sem]) ?_
  simp only [Act.put, List.setIfInBounds_toArray, List.set_cons_zero, List.set_cons_succ]
  generalize w.alloc (.cells #[.func (.func 29) #[.pointer (some ⟨p, 0, none⟩)] #[]] 42) = x2 at A0 L0 AE ⊢
  obtain ⟨z1, ez1⟩ : ∃ b, b = w.heap.size := ⟨_, rfl⟩
  have ABz1 : Hid (w.heap.size ≤ z1) := by rw [ez1]; exact AB.out
  clear AB
  rw [← ez1] at A0  ⊢
  clear ez1
  have Hz1 := A0
  clear A0
  replace hM := L0
  clear L0
  replace hE := AE
  clear AE
  have A0 := hideit (RowAt.new x2 29 (ifV zH 0 (.slice none 0 0) 0 0 0#64) 40)
  have XB : Ext x2 (x2.alloc (.cells (row 29 (ifV zH 0 (.slice none 0 0) 0 0 0#64)).toArray 40)) := (Below.refl _ _).alloc (Nat.le_refl _) _
  have A1 := hideit (Hz1.out.carry XB)
  have L0 := hideit (hM.out.ext XB)
  have AE := hideit (Ext.trans hE.out (XB))
  have AB := hideit (hE.out.size)
  have D0 : Hid (z1 ≠ x2.heap.size) := Nat.ne_of_lt Hz1.out.2.2
  clear XB
  refine wpList_to rfl (.pointer (some ⟨x2.heap.size, 0, none⟩)) (x2.alloc (.cells (row 29 (ifV zH 0 (.slice none 0 0) 0 0 0#64)).toArray 40)) (xalloc 40 _ rfl (zero40 _)) ?_
  simp only [Act.put, List.setIfInBounds_toArray, List.set_cons_zero, List.set_cons_succ]
  generalize x2.alloc (.cells (row 29 (ifV zH 0 (.slice none 0 0) 0 0 0#64)).toArray 40) = x3 at A0 A1 L0 AE ⊢
  obtain ⟨r4, er4⟩ : ∃ b, b = x2.heap.size := ⟨_, rfl⟩
  have ABr4 : Hid (w.heap.size ≤ r4) := by rw [er4]; exact AB.out
  clear AB
  rw [← er4] at A0 D0 ⊢
  clear er4
  have Hr4 := A0
  clear A0
  replace Hz1 := A1
  clear A1
  replace hM := L0
  clear L0
  replace hE := AE
  clear AE
  have Dr4_0 := D0
  clear D0
  refine xm [some (.int .i64 0)] (by kernel_rfl) (by simp [xr, go_sem]) ?_
  simp only [xw, p0, p1, p2, p3]
  go_upto_region 1 with (fail)
  refine wp_region_lit ?_
  have A0 := hideit (RowAt.new x3 29 (ifV zH 0 (.slice none 0 0) 0 0 0#64) 40)
  have XB : Ext x3 (x3.alloc (.cells (row 29 (ifV zH 0 (.slice none 0 0) 0 0 0#64)).toArray 40)) := (Below.refl _ _).alloc (Nat.le_refl _) _
  have A1 := hideit (Hz1.out.carry XB)
  have A2 := hideit (Hr4.out.carry XB)
  have L0 := hideit (hM.out.ext XB)
  have AE := hideit (Ext.trans hE.out (XB))
  have AB := hideit (hE.out.size)
  have D0 : Hid (z1 ≠ x3.heap.size) := Nat.ne_of_lt Hz1.out.2.2
  have D1 : Hid (r4 ≠ x3.heap.size) := Nat.ne_of_lt Hr4.out.2.2
  clear XB
  refine wpList_to rfl (.pointer (some ⟨x3.heap.size, 0, none⟩)) (x3.alloc (.cells (row 29 (ifV zH 0 (.slice none 0 0) 0 0 0#64)).toArray 40)) (xalloc 40 _ rfl (zero40 _)) ?_
  simp only [Act.put, List.setIfInBounds_toArray, List.set_cons_zero, List.set_cons_succ]
  generalize x3.alloc (.cells (row 29 (ifV zH 0 (.slice none 0 0) 0 0 0#64)).toArray 40) = x4 at A0 A1 A2 L0 AE ⊢
  obtain ⟨d, ed⟩ : ∃ b, b = x3.heap.size := ⟨_, rfl⟩
  have ABd : Hid (w.heap.size ≤ d) := by rw [ed]; exact AB.out
  clear AB
  rw [← ed] at A0 D0 D1 ⊢
  clear ed
  have Hd := A0
  clear A0
  replace Hz1 := A1
  clear A1
  replace Hr4 := A2
  clear A2
  replace hM := L0
  clear L0
  replace hE := AE
  clear AE
  have Dd_0 := D0
  clear D0
  have Dd_1 := D1
  clear D1
  go_upto_region 2 with (fail)
  refine wp_region_lit ?_
  refine xm [some (.pointer (some ⟨p, 0, none⟩)), some (.func (.func 61) #[] #[.pointer (some ⟨z1, 0, none⟩), .pointer (some ⟨d, 0, none⟩)])] (by kernel_rfl) (by simp [xr, go_sem]) ?_
  simp only [xw, p0, p1, p2, p3]
  have A0 := hideit (RowAt.newOf x4 1 (fnV (fun i => [61].getD i 0) (fun i => [#[]].getD i #[]) (fun i => [#[.pointer (some ⟨z1, 0, none⟩), .pointer (some ⟨d, 0, none⟩)]].getD i #[])) 47 #[.func (.func 61) #[] #[.pointer (some ⟨z1, 0, none⟩), .pointer (some ⟨d, 0, none⟩)]] (fun j hj => by rcases (by omega : j = 0) with rfl <;> rfl))
  have XB : Ext x4 (x4.alloc (.cells #[.func (.func 61) #[] #[.pointer (some ⟨z1, 0, none⟩), .pointer (some ⟨d, 0, none⟩)]] 47)) := (Below.refl _ _).alloc (Nat.le_refl _) _
  have A1 := hideit (Hz1.out.carry XB)
  have A2 := hideit (Hr4.out.carry XB)
  have A3 := hideit (Hd.out.carry XB)
  have L0 := hideit (hM.out.ext XB)
  have AE := hideit (Ext.trans hE.out (XB))
  have AB := hideit (hE.out.size)
  have D0 : Hid (z1 ≠ x4.heap.size) := Nat.ne_of_lt Hz1.out.2.2
  have D1 : Hid (r4 ≠ x4.heap.size) := Nat.ne_of_lt Hr4.out.2.2
  have D2 : Hid (d ≠ x4.heap.size) := Nat.ne_of_lt Hd.out.2.2
  clear XB
  refine wpList_to rfl (.slice (some ⟨x4.heap.size, 0, none⟩) 1 1) (x4.alloc (.cells #[.func (.func 61) #[] #[.pointer (some ⟨z1, 0, none⟩), .pointer (some ⟨d, 0, none⟩)]] 47)) (by simp [go_sem]) ?_
  simp only [Act.put, List.setIfInBounds_toArray, List.set_cons_zero, List.set_cons_succ]
  generalize x4.alloc (.cells #[.func (.func 61) #[] #[.pointer (some ⟨z1, 0, none⟩), .pointer (some ⟨d, 0, none⟩)]] 47) = x6 at A0 A1 A2 A3 L0 AE ⊢
  obtain ⟨z5, ez5⟩ : ∃ b, b = x4.heap.size := ⟨_, rfl⟩
  have ABz5 : Hid (w.heap.size ≤ z5) := by rw [ez5]; exact AB.out
  clear AB
  rw [← ez5] at A0 D0 D1 D2 ⊢
  clear ez5
  have Hz5 := A0
  clear A0
  replace Hz1 := A1
  clear A1
  replace Hr4 := A2
  clear A2
  replace Hd := A3
  clear A3
  replace hM := L0
  clear L0
  replace hE := AE
  clear AE
  have Dz5_0 := D0
  clear D0
  have Dz5_1 := D1
  clear D1
  have Dz5_2 := D2
  clear D2
  refine wpList_call rfl (by simp [go_sem]) ((do_shut s.h M.sb M.pb s.ep s.r s.sl p (.slice (some ⟨z5, 0, none⟩) 1 1) x6 (hop.out ▸ hM.out.st)).mono ?_)
  rintro e yy ⟨rfl, hyy⟩
  refine ⟨_, rfl, ?_⟩
  simp only [Act.put, List.setIfInBounds_toArray, List.set_cons_zero, List.set_cons_succ]
  replace hyy := hyy.symm
  subst hyy
  refine xm [some (.int .i64 6)] (by kernel_rfl) (by simp [xr, go_sem]) ?_
  simp only [xw, p0, p1, p2, p3]
  clear hM
  go_upto_region 3 with (fail)
  refine wp_region_lit ?_
  refine wpList_run rfl (.agg (row 29 (ifV zH 0 (.slice none 0 0) 0 0 0#64)).toArray) (xload 40 (.tmp 6) rfl d 0 29 _ rfl Hd.out.range Try.underlying40 rfl infoI) ?_
  simp only [Act.put, List.setIfInBounds_toArray, List.set_cons_zero, List.set_cons_succ]
  refine xm [some (.int .i64 6)] (by kernel_rfl) (by simp [xr, go_sem]) ?_
  simp only [xw, p0, p1, p2, p3]
  have N0 := hideit (Hr4.out.cells (g' := ifV zH 0 (.slice none 0 0) 0 0 0#64))
  have N1 := hideit (Hz1.out.cellsOther (Ne.symm (Dr4_0.out)) (row 29 (ifV zH 0 (.slice none 0 0) 0 0 0#64)) 0)
  have N2 := hideit (Hd.out.cellsOther (Dd_1.out) (row 29 (ifV zH 0 (.slice none 0 0) 0 0 0#64)) 0)
  have N3 := hideit (Hz5.out.cellsOther (Dz5_1.out) (row 29 (ifV zH 0 (.slice none 0 0) 0 0 0#64)) 0)
  have NE := hideit (below_setCells r4 (ABr4.out) (row 29 (ifV zH 0 (.slice none 0 0) 0 0 0#64)) 0 _ hE.out)
  refine xst rfl (x6.setCells r4 0 (row 29 (ifV zH 0 (.slice none 0 0) 0 0 0#64))) (xstore 40 (.tmp 4) (.tmp 12) rfl r4 29 _ (ifV zH 0 (.slice none 0 0) 0 0 0#64) rfl rfl Hr4.out infoI (fun j _ => ifv_one _ _ _ _ _ _ rfl j)) ?_
  simp only [Act.put]
  generalize x6.setCells r4 0 (row 29 (ifV zH 0 (.slice none 0 0) 0 0 0#64)) = x7 at N0 N1 N2 N3 NE ⊢
  replace Hr4 := N0
  replace Hz1 := N1
  replace Hd := N2
  replace Hz5 := N3
  replace hE := NE
  clear N0 N1 N2 N3 NE
  refine xm [some (.int .i64 6)] (by kernel_rfl) (by simp [xr, go_sem]) ?_
  simp only [xw, p0, p1, p2, p3]
  go_wp2
  refine bodyPost_ret (ret_row2 rfl rfl Hr4.out Try.underlying40 rfl infoI) rfl ?_
  exact ⟨rfl, hE.out⟩
set_option maxRecDepth 20000 in
set_option maxHeartbeats 4000000 in
theorem info_open {F : Nat → Prop} {p C : Nat} {M : MLoc} {w : World} (s : MSt) (hM : MdM F p s C M w) (hop : s.op = true) (hR : okR s.h s.r) : Calls Try.prog 7 #[.pointer (some ⟨p, 0, none⟩)] w fun e w' => ∃ z, e = .returned (.tuple #[.agg (row 29 (ifS s z)).toArray, .int .i64 0]) ∧ w.heap.size ≤ z ∧ RowAt z s.h.sl.toNat (fun j => .bool (tkF s j)) w' ∧ Ext w w' := by
  replace hM := hideit hM
  replace hop := hideit hop
  replace hR := hideit hR
  have hE := hideit (Ext.refl w)
  go_enter Try.func7, Try.ntmps7
  go_upto_region 0 with (fail)
  refine wp_region_lit ?_
  have A0 := hideit (RowAt.new w 29 (ifV zH 0 (.slice none 0 0) 0 0 0#64) 40)
  have XB : Ext w (w.alloc (.cells (row 29 (ifV zH 0 (.slice none 0 0) 0 0 0#64)).toArray 40)) := (Below.refl _ _).alloc (Nat.le_refl _) _
  have L0 := hideit (hM.out.ext XB)
  have AE := hideit (Ext.trans hE.out (XB))
  have AB := hideit (hE.out.size)
  clear XB
  refine wpList_to rfl (.pointer (some ⟨w.heap.size, 0, none⟩)) (w.alloc (.cells (row 29 (ifV zH 0 (.slice none 0 0) 0 0 0#64)).toArray 40)) (xalloc 40 _ rfl (zero40 _)) ?_
  simp only [Act.put, List.setIfInBounds_toArray, List.set_cons_zero, List.set_cons_succ]
  generalize w.alloc (.cells (row 29 (ifV zH 0 (.slice none 0 0) 0 0 0#64)).toArray 40) = x1 at A0 L0 AE ⊢
  obtain ⟨q, eq⟩ : ∃ b, b = w.heap.size := ⟨_, rfl⟩
  have ABq : Hid (w.heap.size ≤ q) := by rw [eq]; exact AB.out
  clear AB
  rw [← eq] at A0  ⊢
  clear eq
  have Hq := A0
  clear A0
  replace hM := L0
  clear L0
  replace hE := AE
  clear AE
  refine xm [some (.int .i64 0)] (by kernel_rfl) (by simp [xr, go_sem]) ?_
  simp only [xw, p0, p1, p2, p3]
  go_upto_region 1 with (fail)
  refine wp_region_lit ?_
  refine xm [some (.pointer (some ⟨p, 0, none⟩)), some (.pointer (some ⟨p, 0, none⟩)), some (.func (.func 29) #[.pointer (some ⟨p, 0, none⟩)] #[])] (by kernel_rfl) (by simp [xr, go_sem]) ?_
  simp only [xw, p0, p1, p2, p3]
  have hql := hideit Hq.out.2.2
  have hBy := hideit (Below.size hE.out)
  refine wpList_call rfl (by simp [go_sem]) ((ansi_open s hM.out hop.out hR.out).mono ?_)
  rintro e y9 ⟨z, rfl, hz1, hz2, hX9⟩
  refine ⟨_, rfl, ?_⟩
  simp only [Act.put, List.setIfInBounds_toArray, List.set_cons_zero, List.set_cons_succ]
  replace Hq := hideit (Hq.out.carry hX9)
  replace hM := hideit (hM.out.ext hX9)
  replace hE := hideit (Ext.trans hE.out (hX9))
  have hqz : Hid (q ≠ z) := by have := hql.out; show q ≠ z; omega
  replace hz1 : Hid (w.heap.size ≤ z) := by have := hBy.out; show w.heap.size ≤ z; omega
  replace hz2 := hideit hz2
  clear hX9 hM
  refine xm [some (.agg (row 29 (ifS s z)).toArray), some (.int .i64 0)] (by kernel_rfl) (by simp [xr, go_sem]) ?_
  simp only [xw, p0, p1, p2, p3]
  have N0 := hideit (Hq.out.cells (g' := ifS s z))
  have N1 := hideit (hz2.out.cellsOther (hqz.out) (row 29 (ifS s z)) 0)
  have NE := hideit (below_setCells q (ABq.out) (row 29 (ifS s z)) 0 _ hE.out)
  refine xst rfl (y9.setCells q 0 (row 29 (ifS s z))) (xstore 40 (.tmp 2) (.tmp 8) rfl q 29 _ (ifS s z) rfl rfl Hq.out infoI (fun j _ => ifs_one _ _ j)) ?_
  simp only [Act.put]
  generalize y9.setCells q 0 (row 29 (ifS s z)) = x2 at N0 N1 NE ⊢
  replace Hq := N0
  replace hz2 := N1
  replace hE := NE
  clear N0 N1 NE
  refine xm [some (.int .i64 0)] (by kernel_rfl) (by simp [xr, go_sem]) ?_
  simp only [xw, p0, p1, p2, p3]
  go_wp2
  refine bodyPost_ret (ret_row2 rfl rfl Hq.out Try.underlying40 rfl infoI) rfl ?_
  exact ⟨z, rfl, hz1.out, hz2.out, hE.out⟩
set_option maxRecDepth 20000 in
set_option maxHeartbeats 4000000 in
theorem info_shut {F : Nat → Prop} {p C : Nat} {M : MLoc} {w : World} (s : MSt) (hM : MdM F p s C M w) (hop : s.op = false) : Calls Try.prog 7 #[.pointer (some ⟨p, 0, none⟩)] w fun e w' => e = .returned (.tuple #[.agg (row 29 (ifV zH 0 (.slice none 0 0) 0 0 0#64)).toArray, .int .i64 6]) ∧ Ext w w' := by
  replace hM := hideit hM
  replace hop := hideit hop
  have hE := hideit (Ext.refl w)
  go_enter Try.func7, Try.ntmps7
  go_upto_region 0 with (fail)
  refine wp_region_lit ?_
  have A0 := hideit (RowAt.new w 29 (ifV zH 0 (.slice none 0 0) 0 0 0#64) 40)
  have XB : Ext w (w.alloc (.cells (row 29 (ifV zH 0 (.slice none 0 0) 0 0 0#64)).toArray 40)) := (Below.refl _ _).alloc (Nat.le_refl _) _
  have L0 := hideit (hM.out.ext XB)
  have AE := hideit (Ext.trans hE.out (XB))
  have AB := hideit (hE.out.size)
  clear XB
  refine wpList_to rfl (.pointer (some ⟨w.heap.size, 0, none⟩)) (w.alloc (.cells (row 29 (ifV zH 0 (.slice none 0 0) 0 0 0#64)).toArray 40)) (xalloc 40 _ rfl (zero40 _)) ?_
  simp only [Act.put, List.setIfInBounds_toArray, List.set_cons_zero, List.set_cons_succ]
  generalize w.alloc (.cells (row 29 (ifV zH 0 (.slice none 0 0) 0 0 0#64)).toArray 40) = x1 at A0 L0 AE ⊢
  obtain ⟨q, eq⟩ : ∃ b, b = w.heap.size := ⟨_, rfl⟩
  have ABq : Hid (w.heap.size ≤ q) := by rw [eq]; exact AB.out
  clear AB
  rw [← eq] at A0  ⊢
  clear eq
  have Hq := A0
  clear A0
  replace hM := L0
  clear L0
  replace hE := AE
  clear AE
  refine xm [some (.int .i64 0)] (by kernel_rfl) (by simp [xr, go_sem]) ?_
  simp only [xw, p0, p1, p2, p3]
  go_upto_region 1 with (fail)
  refine wp_region_lit ?_
  refine xm [some (.pointer (some ⟨p, 0, none⟩)), some (.pointer (some ⟨p, 0, none⟩)), some (.func (.func 29) #[.pointer (some ⟨p, 0, none⟩)] #[])] (by kernel_rfl) (by simp [xr, go_sem]) ?_
  simp only [xw, p0, p1, p2, p3]
  refine wpList_call rfl (by simp [go_sem]) ((ansi_shut s hM.out hop.out).mono ?_)
  rintro e y2 ⟨rfl, hX3⟩
  refine ⟨_, rfl, ?_⟩
  simp only [Act.put, List.setIfInBounds_toArray, List.set_cons_zero, List.set_cons_succ]
  replace Hq := hideit (Hq.out.carry hX3)
  replace hM := hideit (hM.out.ext hX3)
  replace hE := hideit (Ext.trans hE.out (hX3))

  clear hX3
  refine xm [some (.agg (row 29 (ifV zH 0 (.slice none 0 0) 0 0 0#64)).toArray), some (.int .i64 6)] (by kernel_rfl) (by simp [xr, go_sem]) ?_
  simp only [xw, p0, p1, p2, p3]
  clear hM
  have N0 := hideit (Hq.out.cells (g' := ifV zH 0 (.slice none 0 0) 0 0 0#64))
  have NE := hideit (below_setCells q (ABq.out) (row 29 (ifV zH 0 (.slice none 0 0) 0 0 0#64)) 0 _ hE.out)
  refine xst rfl (y2.setCells q 0 (row 29 (ifV zH 0 (.slice none 0 0) 0 0 0#64))) (xstore 40 (.tmp 2) (.tmp 8) rfl q 29 _ (ifV zH 0 (.slice none 0 0) 0 0 0#64) rfl rfl Hq.out infoI (fun j _ => ifv_one _ _ _ _ _ _ rfl j)) ?_
  simp only [Act.put]
  generalize y2.setCells q 0 (row 29 (ifV zH 0 (.slice none 0 0) 0 0 0#64)) = x4 at N0 NE ⊢
  replace Hq := N0
  replace hE := NE
  clear N0 NE
  refine xm [some (.int .i64 6)] (by kernel_rfl) (by simp [xr, go_sem]) ?_
  simp only [xw, p0, p1, p2, p3]
  go_wp2
  refine bodyPost_ret (ret_row2 rfl rfl Hq.out Try.underlying40 rfl infoI) rfl ?_
  exact ⟨rfl, hE.out⟩
end Go.Proofs.Ytcipkfalnjgghaa
