/-
  RekeyStep.
-/
import Derived.Test.YtcipkfalnjgghaaMd22
import Derived.Test.YtcipkfalnjgghaaMd11
import Derived.Test.YtcipkfalnjgghaaMd8
namespace Go.Proofs.Ytcipkfalnjgghaa
open Go.RowKit Go.BigFrame Go.Maps
set_option linter.unusedVariables false
/-- RekeyStep tells .. -/
def spP (s s' : MSt) (d : Bool) (c : Int) : Prop := (c = 231 ∧ d = false ∧ s.r.rk = false ∧ s' = s) ∨ (c = 0 ∧ d = true ∧ s.r.rk = true ∧ nxT s.h s.r.fr = s.h.se ∧ s' = { s with r := ⟨s.r.ct + 1#64 + 1#64, false, 0, s.r.tr⟩ }) ∨
  (c = 0 ∧ d = false ∧ s.r.rk = true ∧ nxT s.h s.r.fr < s.h.se ∧ s' = { s with r := ⟨s.r.ct + 1#64, true, nxT s.h s.r.fr, s.r.tr⟩ })
theorem nxT_le (h : Hd) (fr : Int) : nxT h fr ≤ h.se := by unfold nxT; split <;> omega
theorem stepm_any {F : Nat → Prop} {p C : Nat} {M : MLoc} {w : World} (s : MSt) (hM : MdM F p s C M w) (hR : okR s.h s.r) : Calls Try.prog 27 #[.pointer (some ⟨p, 0, none⟩)] w fun e w' => ∃ d c s', e = .returned (.tuple #[.bool d, .int .i64 c]) ∧ spP s s' d c ∧ MdM F p s' C M w' ∧ Keeps (fun i => i = p) w w' := by
  obtain ⟨h, S, P, ep, ⟨ct, rk, fr, tr⟩, op, sl⟩ := s
  have hS := hM.st
  have hpf : ∀ i, i = p → F i := fun i hi => by rw [hi]; exact hM.fp
  cases rk with
  | false =>
    refine (step_idle h M.sb M.pb ep ct fr tr op sl p w hS hR).mono ?_
    rintro e w' ⟨q1, q2, q3⟩
    exact ⟨false, 231, _, q1, .inl ⟨rfl, rfl, rfl, rfl⟩, hM.step q2 hpf _ rfl rfl hM.eps q3 (hM.mpS.keep q2 fun e => hM.ps e.symm) (Nat.le_refl C) hM.kS (fun e => hM.pm e.symm), q2⟩
  | true =>
    by_cases e : nxT h fr = h.se
    · refine (step_end h M.sb M.pb ep ct fr tr op sl p w hS hR e (show ¬ nxT h fr < h.se by omega)).mono ?_
      rintro e2 w' ⟨q1, q2, q3⟩
      exact ⟨true, 0, ⟨h, S, P, ep, ⟨ct + 1#64 + 1#64, false, 0, tr⟩, op, sl⟩, q1, .inr (.inl ⟨rfl, rfl, rfl, e, rfl⟩), hM.step q2 hpf ⟨h, S, P, ep, ⟨ct + 1#64 + 1#64, false, 0, tr⟩, op, sl⟩ rfl rfl hM.eps q3 (hM.mpS.keep q2 fun e => hM.ps e.symm) (Nat.le_refl C) hM.kS (fun e => hM.pm e.symm), q2⟩
    · have hl := nxT_le h fr
      refine (step_on h M.sb M.pb ep ct fr tr op sl p w hS hR e (show nxT h fr < h.se by omega)).mono ?_
      rintro e2 w' ⟨q1, q2, q3⟩
      exact ⟨false, 0, ⟨h, S, P, ep, ⟨ct + 1#64, true, nxT h fr, tr⟩, op, sl⟩, q1, .inr (.inr ⟨rfl, rfl, rfl, (by omega : nxT h fr < h.se), rfl⟩), hM.step q2 hpf ⟨h, S, P, ep, ⟨ct + 1#64, true, nxT h fr, tr⟩, op, sl⟩ rfl rfl hM.eps q3 (hM.mpS.keep q2 fun e => hM.ps e.symm) (Nat.le_refl C) hM.kS (fun e => hM.pm e.symm), q2⟩
set_option maxRecDepth 20000 in
set_option maxHeartbeats 4000000 in
theorem t59_any {F : Nat → Prop} {p C : Nat} {M : MLoc} {w : World} (s : MSt) (hM : MdM F p s C M w) (hR : okR s.h s.r) (cs d : Nat) (hc : RowAt cs 1 (fun _ => .func (.func 27) #[.pointer (some ⟨p, 0, none⟩)] #[]) w) (hd : RowAt d 1 (fun _ => .bool false) w) (ncs : cs ≠ d) (hdF : ¬ F d) (hnB : ¬ IsB d w) : Calls Try.prog 59 #[.pointer (some ⟨cs, 0, none⟩), .pointer (some ⟨d, 0, none⟩)] w fun e w' => ∃ c, e = .returned (.int .i64 c) ∧ ∃ dd s', spP s s' dd c ∧ MdM F p s' C M w' ∧ Keeps (fun i => i = p ∨ i = d) w w' ∧ RowAt d 1 (fun _ => .bool dd) w' := by
  have hdl := hideit hd.2.2
  replace hM := hideit hM
  replace hR := hideit hR
  replace hc := hideit hc
  replace hd := hideit hd
  replace ncs := hideit ncs
  replace hdF := hideit hdF
  replace hnB := hideit hnB
  have hE := hideit (Keeps.refl (fun i => i = p ∨ i = d) w)
  go_enter Try.func59, Try.ntmps59
  go_upto_region 1 with (fail)
  refine wp_region_lit ?_
  have m1 : w.cell? ⟨cs, 0, none⟩ = some (.func (.func 27) #[.pointer (some ⟨p, 0, none⟩)] #[]) := hc.out.1 0 (by decide)
  refine xm [some (.func (.func 27) #[.pointer (some ⟨p, 0, none⟩)] #[])] (by kernel_rfl) (by simp [xr, go_sem, m1]) ?_
  simp only [xw, p0, p1, p2, p3]
  clear m1
  refine wpList_call rfl (by simp [go_sem]) ((stepm_any s hM.out hR.out).mono ?_)
  rintro e y1 ⟨dd, c, s9, rfl, hv, hM9, hK9⟩
  refine ⟨_, rfl, ?_⟩
  simp only [Act.put, List.setIfInBounds_toArray, List.set_cons_zero, List.set_cons_succ]
  replace hd := hideit (hd.out.keep hK9 fun e => hdF.out (by rw [e]; exact hM.out.fp))
  replace hE := hideit (hE.out.trans hK9 fun i hi => .inl (.inl hi))
  have hnB9 : Hid (¬ IsB d y1) := fun e => hnB.out (hK9.bk d hdl.out e)
  replace hv := hideit hv
  replace hM9 := hideit hM9
  clear hK9 hM hc
  refine xm [some (.tuple #[.bool dd, .int .i64 (c)]), some (.bool dd), some (.int .i64 (c))] (by kernel_rfl) (by simp [xr, go_sem]) ?_
  simp only [xw, p0, p1, p2, p3]
  have M0 : y1.cell? ⟨d, 0, none⟩ = some (.bool false) := hd.out.1 0 (by decide)
  have M1 : y1.frozen? ⟨d, 0, none⟩ = false := hd.out.2.1 0 (by decide)
  have N0 := hideit (hd.out.set 0 (.bool dd))
  have NE := hideit (hE.out.setCell (p := ⟨d, 0, none⟩) (.inl (.inr rfl)) (.bool dd))
  refine xst rfl (y1.setCell ⟨d, 0, none⟩ (.bool dd)) (by simp [go_sem, M0, M1]) ?_
  simp only [Act.put]
  have hM8 := hideit (hM9.out.keep ((Keeps.refl (fun i => i = d) y1).setCell (p := ⟨d, 0, none⟩) (.inl rfl) (.bool dd)) (fun i hi e => hdF.out (by rw [← e]; exact hi)) (fun i e => by rw [e]; exact hnB9.out))
  generalize y1.setCell ⟨d, 0, none⟩ (.bool dd) = x2 at N0 NE hM8 ⊢
  clear M0 M1
  replace N0 := hideit (N0.out.congr (g' := fun _ => .bool dd) (fun j hj => by rw [if_pos (by omega)]))
  replace hd := N0
  replace hE := NE
  clear N0 NE
  refine xm [some (.int .i64 (c))] (by kernel_rfl) (by simp [xr, go_sem]) ?_
  simp only [xw, p0, p1, p2, p3]
  go_upto_region 2 with (fail)
  refine wp_region_lit ?_
  refine xm [some (.int .i64 (c)), some (.int .i64 (c))] (by kernel_rfl) (by simp [xr, go_sem]) ?_
  simp only [xw, p0, p1, p2, p3]
  go_wp2
  go_ret
  exact ⟨c, rfl, dd, s9, hv.out, hM8.out, hE.out, hd.out⟩
theorem st_do {F : Nat → Prop} {p C : Nat} {M : MLoc} {w : World} (s : MSt) (hM : MdM F p s C M w) (hop : s.op = true) (hR : okR s.h s.r) (cs d bs : Nat) (hc : RowAt cs 1 (fun _ => .func (.func 27) #[.pointer (some ⟨p, 0, none⟩)] #[]) w) (hd : RowAt d 1 (fun _ => .bool false) w) (hB : RowAt bs 1 (fnV (fun i => [59].getD i 0) (fun i => [#[]].getD i #[]) (fun i => [#[.pointer (some ⟨cs, 0, none⟩), .pointer (some ⟨d, 0, none⟩)]].getD i #[])) w) (ncs : cs ≠ d) (nbs : bs ≠ d) (hdF : ¬ F d) (hbF : ¬ F bs) (hnB : ¬ IsB d w) :
    Calls Try.prog 33 #[.pointer (some ⟨p, 0, none⟩), .slice (some ⟨bs, 0, none⟩) 1 1] w fun e w' => ∃ c : Int, e = .returned (.int .i64 c) ∧ ∃ dd s', spP s s' dd c ∧ MdM F p s' C M w' ∧ Keeps (fun i => i = p ∨ i = d) w w' ∧ RowAt d 1 (fun _ => .bool dd) w' := by
  have hS := hM.st
  rw [hop] at hS
  refine do_one s.h M.sb M.pb s.ep s.r s.sl p bs (fun i => [59].getD i 0) (fun i => [#[]].getD i #[]) (fun i => [#[.pointer (some ⟨cs, 0, none⟩), .pointer (some ⟨d, 0, none⟩)]].getD i #[]) w hS hB (fun c W => ∃ dd s', spP s s' dd c ∧ MdM F p s' C M W ∧ Keeps (fun i => i = p ∨ i = d) w W ∧ RowAt d 1 (fun _ => .bool dd) W) (fun W ⟨dd, s', _, _, hK, _⟩ => hB.keep hK fun e => by rcases e with e | e; exact hbF (by rw [e]; exact hM.fp); exact nbs e) (fun args X => by simp [go_sem]) ?_
  exact t59_any s hM hR cs d hc hd ncs hdF hnB
theorem below_ext {w X Y : World} (h : Ext w X) (k : Ext X Y) : Ext w Y := Ext.trans h k
set_option maxRecDepth 20000 in
set_option maxHeartbeats 4000000 in
theorem ansb_open {F : Nat → Prop} {p C : Nat} {M : MLoc} {w : World} (s : MSt) (hM : MdM F p s C M w) (hop : s.op = true) (hR : okR s.h s.r) : Calls Try.prog 26 #[.pointer (some ⟨p, 0, none⟩), .func (.func 27) #[.pointer (some ⟨p, 0, none⟩)] #[]] w fun e w' => ∃ dd c, e = .returned (.tuple #[.bool dd, .int .i64 c]) ∧ ∃ s', spP s s' dd c ∧ MdM F p s' C M w' ∧ Keeps F w w' := by
  have hlt := hideit hM.lt
  have hfp := hideit hM.fp
  replace hM := hideit hM
  replace hop := hideit hop
  replace hR := hideit hR
  have hE := hideit (Ext.refl w)
  go_enter Try.func26, Try.ntmps26
  go_upto_region 0 with (fail)
  refine wp_region_lit ?_
  have A0 := hideit (row1_new w (.func (.func 27) #[.pointer (some ⟨p, 0, none⟩)] #[]) 31)
  have XB : Ext w (w.alloc (.cells #[.func (.func 27) #[.pointer (some ⟨p, 0, none⟩)] #[]] 31)) := (Below.refl _ _).alloc (Nat.le_refl _) _
  have L0 := hideit (hM.out.ext XB)
  have AE := hideit (Ext.trans hE.out (XB))
  have AB := hideit (hE.out.size)
  clear XB
  refine wpList_to rfl (.pointer (some ⟨w.heap.size, 0, none⟩)) (w.alloc (.cells #[.func (.func 27) #[.pointer (some ⟨p, 0, none⟩)] #[]] 31)) (by simp [go_sem]) ?_
  simp only [Act.put, List.setIfInBounds_toArray, List.set_cons_zero, List.set_cons_succ]
  generalize w.alloc (.cells #[.func (.func 27) #[.pointer (some ⟨p, 0, none⟩)] #[]] 31) = x2 at A0 L0 AE ⊢
  obtain ⟨z1, ez1⟩ : ∃ b, b = w.heap.size := ⟨_, rfl⟩
  have ABz1 : Hid (w.heap.size ≤ z1) := by rw [ez1]; exact AB.out
  clear AB
  rw [← ez1] at A0  ⊢
  clear ez1
  have Hz1 := A0
  clear A0
  replace hM := L0
  clear L0
  replace hE := AE
  clear AE
  refine xm [some (.bool false), some (.int .i64 0)] (by kernel_rfl) (by simp [xr, go_sem]) ?_
  simp only [xw, p0, p1, p2, p3]
  go_upto_region 1 with (fail)
  refine wp_region_lit ?_
  have hnB := hideit (notB_new x2 #[.bool false] 4 (by decide))
  have A0 := hideit (row1_new x2 (.bool false) 4)
  have XB : Ext x2 (x2.alloc (.cells #[.bool false] 4)) := (Below.refl _ _).alloc (Nat.le_refl _) _
  have A1 := hideit (Hz1.out.carry XB)
  have L0 := hideit (hM.out.ext XB)
  have AE := hideit (Ext.trans hE.out (XB))
  have AB := hideit (hE.out.size)
  have D0 : Hid (z1 ≠ x2.heap.size) := Nat.ne_of_lt Hz1.out.2.2
  clear XB
  refine wpList_to rfl (.pointer (some ⟨x2.heap.size, 0, none⟩)) (x2.alloc (.cells #[.bool false] 4)) (by simp [go_sem]) ?_
  simp only [Act.put, List.setIfInBounds_toArray, List.set_cons_zero, List.set_cons_succ]
  generalize x2.alloc (.cells #[.bool false] 4) = x3 at A0 A1 L0 AE hnB ⊢
  obtain ⟨d, ed⟩ : ∃ b, b = x2.heap.size := ⟨_, rfl⟩
  have ABd : Hid (w.heap.size ≤ d) := by rw [ed]; exact AB.out
  clear AB
  rw [← ed] at A0 D0 hnB ⊢
  clear ed
  have Hd := A0
  clear A0
  replace Hz1 := A1
  clear A1
  replace hM := L0
  clear L0
  replace hE := AE
  clear AE
  have Dd_0 := D0
  clear D0
  have hXn := hideit (Ext.refl x3)
  have Hdz := hideit Hd.out.2.2

  go_upto_region 2 with (fail)
  refine wp_region_lit ?_
  refine xm [some (.pointer (some ⟨p, 0, none⟩)), some (.func (.func 59) #[] #[.pointer (some ⟨z1, 0, none⟩), .pointer (some ⟨d, 0, none⟩)])] (by kernel_rfl) (by simp [xr, go_sem]) ?_
  simp only [xw, p0, p1, p2, p3]
  have A0 := hideit (RowAt.newOf x3 1 (fnV (fun i => [59].getD i 0) (fun i => [#[]].getD i #[]) (fun i => [#[.pointer (some ⟨z1, 0, none⟩), .pointer (some ⟨d, 0, none⟩)]].getD i #[])) 47 #[.func (.func 59) #[] #[.pointer (some ⟨z1, 0, none⟩), .pointer (some ⟨d, 0, none⟩)]] (fun j hj => by rcases (by omega : j = 0) with rfl <;> rfl))
  have XB : Ext x3 (x3.alloc (.cells #[.func (.func 59) #[] #[.pointer (some ⟨z1, 0, none⟩), .pointer (some ⟨d, 0, none⟩)]] 47)) := (Below.refl _ _).alloc (Nat.le_refl _) _
  have A1 := hideit (Hz1.out.carry XB)
  have A2 := hideit (Hd.out.carry XB)
  have L0 := hideit (hM.out.ext XB)
  have L1 := hideit (below_ext hXn.out XB)
  have AE := hideit (Ext.trans hE.out (XB))
  have AB := hideit (hE.out.size)
  have D0 : Hid (z1 ≠ x3.heap.size) := Nat.ne_of_lt Hz1.out.2.2
  have D1 : Hid (d ≠ x3.heap.size) := Nat.ne_of_lt Hd.out.2.2
  clear XB
  refine wpList_to rfl (.slice (some ⟨x3.heap.size, 0, none⟩) 1 1) (x3.alloc (.cells #[.func (.func 59) #[] #[.pointer (some ⟨z1, 0, none⟩), .pointer (some ⟨d, 0, none⟩)]] 47)) (by simp [go_sem]) ?_
  simp only [Act.put, List.setIfInBounds_toArray, List.set_cons_zero, List.set_cons_succ]
  generalize x3.alloc (.cells #[.func (.func 59) #[] #[.pointer (some ⟨z1, 0, none⟩), .pointer (some ⟨d, 0, none⟩)]] 47) = x5 at A0 A1 A2 L0 L1 AE ⊢
  obtain ⟨z4, ez4⟩ : ∃ b, b = x3.heap.size := ⟨_, rfl⟩
  have ABz4 : Hid (w.heap.size ≤ z4) := by rw [ez4]; exact AB.out
  clear AB
  rw [← ez4] at A0 D0 D1 ⊢
  clear ez4
  have Hz4 := A0
  clear A0
  replace Hz1 := A1
  clear A1
  replace Hd := A2
  clear A2
  replace hM := L0
  clear L0
  replace hXn := L1
  clear L1
  replace hE := AE
  clear AE
  have Dz4_0 := D0
  clear D0
  have Dz4_1 := D1
  clear D1
  have hdF : ¬ F d := fun e => by have := hlt.out d e; have := ABd.out; omega
  have hbF : ¬ F z4 := fun e => by have := hlt.out z4 e; have := ABz4.out; omega
  have hnB2 : ¬ IsB d x5 := fun e => hnB.out ((Keeps.of_ext (F := F) hXn.out).bk d Hdz.out e)
  have kd := hideit (st_do s hM.out hop.out hR.out z1 d z4 Hz1.out Hd.out Hz4.out (Dd_0.out) (Ne.symm (Dz4_1.out)) hdF hbF hnB2)
  refine wpList_call rfl (by simp [go_sem]) ((kd.out).mono ?_)
  rintro e y9 ⟨c, rfl, dd, s9, hv, hM9, hK, hd⟩
  refine ⟨_, rfl, ?_⟩
  simp only [Act.put, List.setIfInBounds_toArray, List.set_cons_zero, List.set_cons_succ]
  replace hv := hideit hv
  replace hM9 := hideit hM9
  replace hK := hideit ((Keeps.of_ext hE.out).trans (F := F) hK fun i hi => by
    rcases hi with e | e
    · exact .inl (by rw [e]; exact hfp.out)
    · exact .inr (by rw [e]; exact ABd.out))
  replace hd := hideit hd
  clear kd hM hE hdF hbF hnB2
  refine xm [some (.int .i64 (c))] (by kernel_rfl) (by simp [xr, go_sem]) ?_
  simp only [xw, p0, p1, p2, p3]
  go_upto_region 3 with (fail)
  refine wp_region_lit ?_
  have m6 : y9.cell? ⟨d, 0, none⟩ = some (.bool dd) := hd.out.1 0 (by decide)
  refine xm [some (.bool dd), some (.int .i64 (c)), some (.bool dd), some (.int .i64 (c))] (by kernel_rfl) (by simp [xr, go_sem, m6]) ?_
  simp only [xw, p0, p1, p2, p3]
  clear m6
  go_wp2
  refine bodyPost_ret (res2 rfl _ _ _) rfl ?_
  exact ⟨dd, c, rfl, s9, hv.out, hM9.out, hK.out⟩
set_option maxRecDepth 20000 in
set_option maxHeartbeats 4000000 in
theorem ansb_shut {F : Nat → Prop} {p C : Nat} {M : MLoc} {w : World} (s : MSt) (hM : MdM F p s C M w) (hop : s.op = false) : Calls Try.prog 26 #[.pointer (some ⟨p, 0, none⟩), .func (.func 27) #[.pointer (some ⟨p, 0, none⟩)] #[]] w fun e w' => e = .returned (.tuple #[.bool false, .int .i64 6]) ∧ Ext w w' := by
  replace hM := hideit hM
  replace hop := hideit hop
  have hE := hideit (Ext.refl w)
  go_enter Try.func26, Try.ntmps26
  go_upto_region 0 with (fail)
  refine wp_region_lit ?_
  have A0 := hideit (row1_new w (.func (.func 27) #[.pointer (some ⟨p, 0, none⟩)] #[]) 31)
  have XB : Ext w (w.alloc (.cells #[.func (.func 27) #[.pointer (some ⟨p, 0, none⟩)] #[]] 31)) := (Below.refl _ _).alloc (Nat.le_refl _) _
  have L0 := hideit (hM.out.ext XB)
  have AE := hideit (Ext.trans hE.out (XB))
  have AB := hideit (hE.out.size)
  clear XB
  refine wpList_to rfl (.pointer (some ⟨w.heap.size, 0, none⟩)) (w.alloc (.cells #[.func (.func 27) #[.pointer (some ⟨p, 0, none⟩)] #[]] 31)) (by simp [go_sem]) ?_
  simp only [Act.put, List.setIfInBounds_toArray, List.set_cons_zero, List.set_cons_succ]
  generalize w.alloc (.cells #[.func (.func 27) #[.pointer (some ⟨p, 0, none⟩)] #[]] 31) = x2 at A0 L0 AE ⊢
  obtain ⟨z1, ez1⟩ : ∃ b, b = w.heap.size := ⟨_, rfl⟩
  have ABz1 : Hid (w.heap.size ≤ z1) := by rw [ez1]; exact AB.out
  clear AB
  rw [← ez1] at A0  ⊢
  clear ez1
  have Hz1 := A0
  clear A0
  replace hM := L0
  clear L0
  replace hE := AE
  clear AE
  refine xm [some (.bool false), some (.int .i64 0)] (by kernel_rfl) (by simp [xr, go_sem]) ?_
  simp only [xw, p0, p1, p2, p3]
  go_upto_region 1 with (fail)
  refine wp_region_lit ?_
  have hnB := hideit (notB_new x2 #[.bool false] 4 (by decide))
  have A0 := hideit (row1_new x2 (.bool false) 4)
  have XB : Ext x2 (x2.alloc (.cells #[.bool false] 4)) := (Below.refl _ _).alloc (Nat.le_refl _) _
  have A1 := hideit (Hz1.out.carry XB)
  have L0 := hideit (hM.out.ext XB)
  have AE := hideit (Ext.trans hE.out (XB))
  have AB := hideit (hE.out.size)
  have D0 : Hid (z1 ≠ x2.heap.size) := Nat.ne_of_lt Hz1.out.2.2
  clear XB
  refine wpList_to rfl (.pointer (some ⟨x2.heap.size, 0, none⟩)) (x2.alloc (.cells #[.bool false] 4)) (by simp [go_sem]) ?_
  simp only [Act.put, List.setIfInBounds_toArray, List.set_cons_zero, List.set_cons_succ]
  generalize x2.alloc (.cells #[.bool false] 4) = x3 at A0 A1 L0 AE hnB ⊢
  obtain ⟨d, ed⟩ : ∃ b, b = x2.heap.size := ⟨_, rfl⟩
  have ABd : Hid (w.heap.size ≤ d) := by rw [ed]; exact AB.out
  clear AB
  rw [← ed] at A0 D0 hnB ⊢
  clear ed
  have Hd := A0
  clear A0
  replace Hz1 := A1
  clear A1
  replace hM := L0
  clear L0
  replace hE := AE
  clear AE
  have Dd_0 := D0
  clear D0
  go_upto_region 2 with (fail)
  refine wp_region_lit ?_
  refine xm [some (.pointer (some ⟨p, 0, none⟩)), some (.func (.func 59) #[] #[.pointer (some ⟨z1, 0, none⟩), .pointer (some ⟨d, 0, none⟩)])] (by kernel_rfl) (by simp [xr, go_sem]) ?_
  simp only [xw, p0, p1, p2, p3]
  have A0 := hideit (RowAt.newOf x3 1 (fnV (fun i => [59].getD i 0) (fun i => [#[]].getD i #[]) (fun i => [#[.pointer (some ⟨z1, 0, none⟩), .pointer (some ⟨d, 0, none⟩)]].getD i #[])) 47 #[.func (.func 59) #[] #[.pointer (some ⟨z1, 0, none⟩), .pointer (some ⟨d, 0, none⟩)]] (fun j hj => by rcases (by omega : j = 0) with rfl <;> rfl))
  have XB : Ext x3 (x3.alloc (.cells #[.func (.func 59) #[] #[.pointer (some ⟨z1, 0, none⟩), .pointer (some ⟨d, 0, none⟩)]] 47)) := (Below.refl _ _).alloc (Nat.le_refl _) _
  have A1 := hideit (Hz1.out.carry XB)
  have A2 := hideit (Hd.out.carry XB)
  have L0 := hideit (hM.out.ext XB)
  have AE := hideit (Ext.trans hE.out (XB))
  have AB := hideit (hE.out.size)
  have D0 : Hid (z1 ≠ x3.heap.size) := Nat.ne_of_lt Hz1.out.2.2
  have D1 : Hid (d ≠ x3.heap.size) := Nat.ne_of_lt Hd.out.2.2
  clear XB
  refine wpList_to rfl (.slice (some ⟨x3.heap.size, 0, none⟩) 1 1) (x3.alloc (.cells #[.func (.func 59) #[] #[.pointer (some ⟨z1, 0, none⟩), .pointer (some ⟨d, 0, none⟩)]] 47)) (by simp [go_sem]) ?_
  simp only [Act.put, List.setIfInBounds_toArray, List.set_cons_zero, List.set_cons_succ]
  generalize x3.alloc (.cells #[.func (.func 59) #[] #[.pointer (some ⟨z1, 0, none⟩), .pointer (some ⟨d, 0, none⟩)]] 47) = x5 at A0 A1 A2 L0 AE ⊢
  obtain ⟨z4, ez4⟩ : ∃ b, b = x3.heap.size := ⟨_, rfl⟩
  have ABz4 : Hid (w.heap.size ≤ z4) := by rw [ez4]; exact AB.out
  clear AB
  rw [← ez4] at A0 D0 D1 ⊢
  clear ez4
  have Hz4 := A0
  clear A0
  replace Hz1 := A1
  clear A1
  replace Hd := A2
  clear A2
  replace hM := L0
  clear L0
  replace hE := AE
  clear AE
  have Dz4_0 := D0
  clear D0
  have Dz4_1 := D1
  clear D1
  refine wpList_call rfl (by simp [go_sem]) ((do_shut s.h M.sb M.pb s.ep s.r s.sl p (.slice (some ⟨z4, 0, none⟩) 1 1) x5 (hop.out ▸ hM.out.st)).mono ?_)
  rintro e yy ⟨rfl, hyy⟩
  refine ⟨_, rfl, ?_⟩
  simp only [Act.put, List.setIfInBounds_toArray, List.set_cons_zero, List.set_cons_succ]
  replace hyy := hyy.symm
  subst hyy
  refine xm [some (.int .i64 6)] (by kernel_rfl) (by simp [xr, go_sem]) ?_
  simp only [xw, p0, p1, p2, p3]
  go_upto_region 3 with (fail)
  refine wp_region_lit ?_
  have m6 : x5.cell? ⟨d, 0, none⟩ = some (.bool false) := Hd.out.1 0 (by decide)
  refine xm [some (.bool false), some (.int .i64 6), some (.bool false), some (.int .i64 6)] (by kernel_rfl) (by simp [xr, go_sem, m6]) ?_
  simp only [xw, p0, p1, p2, p3]
  clear m6
  go_wp2
  refine bodyPost_ret (res2 rfl _ _ _) rfl ?_
  exact ⟨rfl, hE.out⟩
set_option maxRecDepth 20000 in
set_option maxHeartbeats 4000000 in
theorem step_open {F : Nat → Prop} {p C : Nat} {M : MLoc} {w : World} (s : MSt) (hM : MdM F p s C M w) (hop : s.op = true) (hR : okR s.h s.r) : Calls Try.prog 6 #[.pointer (some ⟨p, 0, none⟩)] w fun e w' => ∃ dd c, e = .returned (.tuple #[.bool dd, .int .i64 c]) ∧ ∃ s', spP s s' dd c ∧ MdM F p s' C M w' ∧ Keeps F w w' := by
  replace hM := hideit hM
  replace hop := hideit hop
  replace hR := hideit hR
  have hE := hideit (Ext.refl w)
  go_enter Try.func6, Try.ntmps6
  go_upto_region 1 with (fail)
  refine wp_region_lit ?_
  refine xm [some (.pointer (some ⟨p, 0, none⟩)), some (.pointer (some ⟨p, 0, none⟩)), some (.func (.func 27) #[.pointer (some ⟨p, 0, none⟩)] #[])] (by kernel_rfl) (by simp [xr, go_sem]) ?_
  simp only [xw, p0, p1, p2, p3]
  refine wpList_call rfl (by simp [go_sem]) ((ansb_open s hM.out hop.out hR.out).mono ?_)
  rintro e y9 ⟨dd, c, rfl, s9, hv, hM9, hK9⟩
  refine ⟨_, rfl, ?_⟩
  simp only [Act.put, List.setIfInBounds_toArray, List.set_cons_zero, List.set_cons_succ]
  refine xm [some (.bool dd), some (.int .i64 (c)), some (.bool dd), some (.int .i64 (c))] (by kernel_rfl) (by simp [xr, go_sem]) ?_
  simp only [xw, p0, p1, p2, p3]
  go_wp2
  refine bodyPost_ret (res2 rfl _ _ _) rfl ?_
  exact ⟨dd, c, rfl, s9, hv, hM9, hK9⟩
set_option maxRecDepth 20000 in
set_option maxHeartbeats 4000000 in
theorem step_shut {F : Nat → Prop} {p C : Nat} {M : MLoc} {w : World} (s : MSt) (hM : MdM F p s C M w) (hop : s.op = false) : Calls Try.prog 6 #[.pointer (some ⟨p, 0, none⟩)] w fun e w' => e = .returned (.tuple #[.bool false, .int .i64 6]) ∧ Ext w w' := by
  replace hM := hideit hM
  replace hop := hideit hop
  have hE := hideit (Ext.refl w)
  go_enter Try.func6, Try.ntmps6
  go_upto_region 1 with (fail)
  refine wp_region_lit ?_
  refine xm [some (.pointer (some ⟨p, 0, none⟩)), some (.pointer (some ⟨p, 0, none⟩)), some (.func (.func 27) #[.pointer (some ⟨p, 0, none⟩)] #[])] (by kernel_rfl) (by simp [xr, go_sem]) ?_
  simp only [xw, p0, p1, p2, p3]
  refine wpList_call rfl (by simp [go_sem]) ((ansb_shut s hM.out hop.out).mono ?_)
  rintro e y1 ⟨rfl, hX2⟩
  refine ⟨_, rfl, ?_⟩
  simp only [Act.put, List.setIfInBounds_toArray, List.set_cons_zero, List.set_cons_succ]
  replace hM := hideit (hM.out.ext hX2)
  replace hE := hideit (Ext.trans hE.out (hX2))

  clear hX2
  refine xm [some (.bool false), some (.int .i64 6), some (.bool false), some (.int .i64 6)] (by kernel_rfl) (by simp [xr, go_sem]) ?_
  simp only [xw, p0, p1, p2, p3]
  go_wp2
  refine bodyPost_ret (res2 rfl _ _ _) rfl ?_
  exact ⟨rfl, hE.out⟩
end Go.Proofs.Ytcipkfalnjgghaa
