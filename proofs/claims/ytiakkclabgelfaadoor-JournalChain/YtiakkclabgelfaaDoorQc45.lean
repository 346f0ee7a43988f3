/-
  A journal reset. An area made.
-/
import Derived.Test.YtiakkclabgelfaaDoorQc1
import Derived.Test.YtiakkclabgelfaaDoorQc44
namespace Go.Proofs.YtiakkclabgelfaaDoor
open Go.RowKit Go.BigFrame Go.Maps
set_option linter.unusedVariables false
set_option maxRecDepth 20000
def mkS (n B i : Nat) (u : Value) (v : Value) (X : World) : Prop := i = n → ∃ b, v = .slice (some ⟨b, 0, none⟩) 1 1 ∧ B ≤ b ∧ RowAt b 1 (fun _ => u) X
theorem mkS_cl (n B i : Nat) (u v : Value) : Cl Ext (fun X => mkS n B i u v X) := fun X Y h k e => by
  obtain ⟨b, h1, h2, h3⟩ := h e
  exact ⟨b, h1, h2, h3.carry k⟩
def begN (co : Nat) (nu : BitVec 64) (bg : Bool) (nx : BitVec 64) : Prop := (bg = true ∧ nx = nu) ∨ (bg = false ∧ nu.toNat ≠ 0 ∧ nu.toNat + co < 18446744073709551616 ∧ nx = nu + BitVec.ofNat 64 co)
theorem jbegin_any (p fi co : Nat) (nu : BitVec 64) (us : Nat) (bg : Bool) (j : Nat) (w : World) (hJ : RowAt j 7 (jV p fi co nu us bg) w) (hc : 16 ≤ co ∧ co ≤ 256) (nx : BitVec 64) (hb : begN co nu bg nx) : Calls Tryd.prog 28 #[.pointer (some ⟨j, 0, none⟩)] w fun e w' => e = .returned (.int .u64 (nx.toNat : Int)) ∧ w' = w := by
  rcases hb with ⟨rfl, rfl⟩ | ⟨rfl, h1, h2, rfl⟩
  · exact jbegin_yes p fi co nx us j w hJ
  · exact jbegin_no p fi co nu us j w hJ hc h1 h2
section
variable {p fi co us us' : Nat} {nu nu' : BitVec 64} {bg bg' : Bool}
theorem j4g (i : Nat) (h : i < 7) : (if i = 4 then Value.int .i64 (us' : Int) else jV p fi co nu us bg i) = jV p fi co nu us' bg i := by
  unfold jV
  rcases (by omega : i = 0 ∨ i = 1 ∨ i = 2 ∨ i = 3 ∨ i = 4 ∨ i = 5 ∨ i = 6) with rfl | rfl | rfl | rfl | rfl | rfl | rfl <;> rfl
theorem j5g (i : Nat) (h : i < 7) : (if i = 5 then Value.bool bg' else jV p fi co nu us bg i) = jV p fi co nu us bg' i := by
  unfold jV
  rcases (by omega : i = 0 ∨ i = 1 ∨ i = 2 ∨ i = 3 ∨ i = 4 ∨ i = 5 ∨ i = 6) with rfl | rfl | rfl | rfl | rfl | rfl | rfl <;> rfl
end
set_option maxRecDepth 20000 in
set_option maxHeartbeats 4000000 in
theorem reset_ok (j p fi co : Nat) (nu : BitVec 64) (us9 : Nat) (bg : Bool) (F : Nat → Prop) (N : Nat) (A D : Nat → Nat → BitVec 8) (C : Nat) (w : World) (hJ : JR j p fi co nu us9 bg F N A D C w) (hT : TabC w) (nx : BitVec 64) (hbg : begN co nu bg nx) (hnx : nx ≠ 0#64) (hC4 : C + 1 ≤ 4398046511104) : Calls Tryd.prog 9 #[.pointer (some ⟨j, 0, none⟩)] w fun e w' => e = .returned (.int .i64 0) ∧ ∃ F', JR j p fi co nx 0 true F' N (wrN D fi (fun _ => markF nx) 1) (wrN D fi (fun _ => markF nx) 1) (C + 1) w' ∧ Keeps (fun i => F i ∨ i = j) w w' ∧ ∀ b, F' b → F b ∨ w.heap.size ≤ b := by
  have hR := hideit hJ.row
  have hco := hideit (And.intro hJ.co1 hJ.co2)
  have hFl := hideit hJ.dv.lt
  have har := hideit hJ.ar
  replace hJ := hideit hJ
  replace hT := hideit hT
  replace hbg := hideit hbg
  replace hC4 := hideit hC4
  have hE := hideit (Ext.refl w)
  go_enter Tryd.func9, Tryd.ntmps9
  go_upto_region 1 with (fail)
  refine wp_region_lit ?_
  refine xm [some (.pointer (some ⟨j, 0, none⟩))] (by kernel_rfl) (by simp [xr, go_sem]) ?_
  simp only [xw, p0, p1, p2, p3]
  refine wpList_call rfl (by simp [go_sem]) ((jrefusal p fi co nu us9 bg j w hR.out).mono ?_)
  rintro e y1 ⟨rfl, h2⟩
  replace h2 : Ext w y1 := by rw [h2]; exact Ext.refl _
  refine ⟨_, rfl, ?_⟩
  simp only [zp0, zp1, zp2, zp3]
  replace hR := hideit (hR.out.carry h2)
  replace hJ := hideit (hJ.out.ext h2)
  replace hT := hideit (hT.out.ext h2)
  replace hE := hideit (Ext.trans hE.out (h2))
  clear h2
  refine xm [some (.int .i64 0)] (by kernel_rfl) (by simp [xr, go_sem]) ?_
  simp only [xw, p0, p1, p2, p3]
  go_upto_region 2 with (fail)
  refine wp_region_lit ?_
  refine xm [some (.int .i64 0), some (.bool false)] (by kernel_rfl) (by simp [xr, go_sem]) ?_
  simp only [xw, p0, p1, p2, p3]
  go_upto_region 4 with (fail)
  refine wp_region_lit ?_
  refine xm [some (.pointer (some ⟨j, 0, none⟩))] (by kernel_rfl) (by simp [xr, go_sem]) ?_
  simp only [xw, p0, p1, p2, p3]
  refine wpList_call rfl (by simp [go_sem]) ((jbegin_any p fi co nu us9 bg j y1 hR.out hco.out nx hbg.out).mono ?_)
  rintro e y3 ⟨rfl, h4⟩
  replace h4 : Ext y1 y3 := by rw [h4]; exact Ext.refl _
  refine ⟨_, rfl, ?_⟩
  simp only [zp0, zp1, zp2, zp3]
  replace hR := hideit (hR.out.carry h4)
  replace hJ := hideit (hJ.out.ext h4)
  replace hT := hideit (hT.out.ext h4)
  replace hE := hideit (Ext.trans hE.out (h4))
  clear h4
  refine xm [some (.int .u64 (nx.toNat : Int))] (by kernel_rfl) (by simp [xr, go_sem]) ?_
  simp only [xw, p0, p1, p2, p3]
  have h0E := hE
  go_upto_region 5 with (fail)
  refine wp_region_lit ?_
  refine xm [some (.int .u64 (nx.toNat : Int))] (by kernel_rfl) (by simp [xr, go_sem]) ?_
  simp only [xw, p0, p1, p2, p3]
  refine wpList_call rfl (by simp [go_sem]) ((mark_any nx hnx y3 hT.out).mono ?_)
  rintro e y1 ⟨zm, rfl, hzm, hM, hX1⟩
  refine ⟨_, rfl, ?_⟩
  simp only [zp0, zp1, zp2, zp3]
  replace hR := hideit (hR.out.carry hX1)
  replace hJ := hideit (hJ.out.ext hX1)
  replace hT := hideit (hT.out.ext hX1)
  replace hE := hideit (Ext.trans hE.out (hX1))
  replace hzm : Hid (w.heap.size ≤ zm) := hideit (Nat.le_trans (Below.size h0E.out) hzm)
  have hMl := hideit (RowAt.lie hM 512 (Nat.le_refl _))
  replace hM := hideit hM
  clear hX1 h0E hnx
  refine xm [some (.tuple #[.slice (some ⟨zm, 0, none⟩) 512 512, .int .i64 0]), some (.slice (some ⟨zm, 0, none⟩) 512 512), some (.int .i64 0), some (.slice (some ⟨zm, 0, none⟩) 512 512), some (.int .i64 0)] (by kernel_rfl) (by simp [xr, go_sem]) ?_
  simp only [xw, p0, p1, p2, p3]
  go_upto_region 6 with (fail)
  refine wp_region_lit ?_
  refine xm [some (.int .i64 0), some (.bool false)] (by kernel_rfl) (by simp [xr, go_sem]) ?_
  simp only [xw, p0, p1, p2, p3]
  generalize y1 = V at hR hJ hT hE hM hMl ⊢
  go_upto_region 8 with (fail)
  refine wp_region_ladm Ext (fun X => Ext V X) (fun i v X => mkS 10 V.heap.size i (.slice (some ⟨zm, 0, none⟩) 512 512) v X) [18] [] [(0, 0), (0, 1), (0, 2), (0, 3), (0, 4), (0, 5), (0, 6), (0, 7), (0, 8), (0, 9), (0, 12), (0, 13), (0, 14), (0, 15), (0, 16), (2, 10), (1, 11), (1, 17), (1, 18), (3, 19)] (by kernel_rfl) (by kernel_rfl) (by decide +kernel) (by decide +kernel) (by decide +kernel) (by decide +kernel) (fun i v => mkS_cl _ _ i _ v) (extCl V) ((Ext.refl V).draw) ?_
  refine wpQ_f _ (.pointer (some ⟨j, 0, none⟩)) rfl rfl (fun X hX => by simp [go_sem]) ?_
  simp only [List.getElem_toArray, List.getElem_cons_zero, Act.put, List.setIfInBounds_toArray, List.set_cons_zero, List.set_cons_succ]
  refine wpQ_f _ (.pointer (some ⟨j, 0, none⟩)) rfl rfl (fun X hX => by simp [go_sem]) ?_
  simp only [zp4, zp5, zp6, zp0, zp1, zp2, zp3]
  refine wpQ_f _ (.pointer (some ⟨j, 0, none⟩)) rfl rfl (fun X hX => by simp [go_sem]) ?_
  simp only [zp4, zp5, zp6, zp0, zp1, zp2, zp3]
  refine wpQ_f _ (.pointer (some ⟨j, 0, none⟩)) rfl rfl (fun X hX => by simp [go_sem]) ?_
  simp only [zp4, zp5, zp6, zp0, zp1, zp2, zp3]
  refine wpQ_f _ (.pointer (some ⟨p, 0, none⟩)) rfl rfl (fun X hX => by have e : X.cell? ⟨j, 0, none⟩ = some (.pointer (some ⟨p, 0, none⟩)) := (hR.out.carry hX).1 0 (by decide); simp [go_sem, e]) ?_
  simp only [zp4, zp5, zp6, zp0, zp1, zp2, zp3]
  refine wpQ_f _ (.pointer (some ⟨j, 0, none⟩)) rfl rfl (fun X hX => by simp [go_sem]) ?_
  simp only [zp4, zp5, zp6, zp0, zp1, zp2, zp3]
  refine wpQ_f _ (.pointer (some ⟨j, 0, none⟩)) rfl rfl (fun X hX => by simp [go_sem]) ?_
  simp only [zp4, zp5, zp6, zp0, zp1, zp2, zp3]
  refine wpQ_f _ (.pointer (some ⟨j, 1, none⟩)) rfl rfl (fun X hX => by simp [go_sem]) ?_
  simp only [zp4, zp5, zp6, zp0, zp1, zp2, zp3]
  refine wpQ_f _ (.int .i64 (fi : Int)) rfl rfl (fun X hX => by have e : X.cell? ⟨j, 1, none⟩ = some (.int .i64 (fi : Int)) := (hR.out.carry hX).1 1 (by decide); simp [go_sem, e]) ?_
  simp only [zp4, zp5, zp6, zp0, zp1, zp2, zp3]
  refine wpQ_f _ (.slice (some ⟨zm, 0, none⟩) 512 512) rfl rfl (fun X hX => by simp [go_sem]) ?_
  simp only [zp4, zp5, zp6, zp0, zp1, zp2, zp3]
  refine wpQ_f _ (.pointer (some ⟨j, 0, none⟩)) rfl rfl (fun X hX => by simp [go_sem]) ?_
  simp only [zp4, zp5, zp6, zp0, zp1, zp2, zp3]
  refine wpQ_f _ (.pointer (some ⟨j, 0, none⟩)) rfl rfl (fun X hX => by simp [go_sem]) ?_
  simp only [zp4, zp5, zp6, zp0, zp1, zp2, zp3]
  refine wpQ_f _ (.pointer (some ⟨j, 0, none⟩)) rfl rfl (fun X hX => by simp [go_sem]) ?_
  simp only [zp4, zp5, zp6, zp0, zp1, zp2, zp3]
  refine wpQ_f _ (.pointer (some ⟨p, 0, none⟩)) rfl rfl (fun X hX => by have e : X.cell? ⟨j, 0, none⟩ = some (.pointer (some ⟨p, 0, none⟩)) := (hR.out.carry hX).1 0 (by decide); simp [go_sem, e]) ?_
  simp only [zp4, zp5, zp6, zp0, zp1, zp2, zp3]
  refine wpQ_f _ (.func (.func 19) #[.pointer (some ⟨p, 0, none⟩)] #[]) rfl rfl (fun X hX => by simp [go_sem]) ?_
  simp only [zp4, zp5, zp6, zp0, zp1, zp2, zp3]
  refine wpQ_m _ rfl rfl (fun X hX => ⟨.slice (some ⟨X.heap.size, 0, none⟩) 1 1, X.alloc (.cells #[(.slice (some ⟨zm, 0, none⟩) 512 512)] 39), by simp [go_sem], fun _ => ⟨_, rfl, Below.size hX, row1_new X (.slice (some ⟨zm, 0, none⟩) 512 512) 39⟩, (Below.refl _ _).alloc (Nat.le_refl _) _⟩) ?_
  rintro vv ⟨_, _, hvv⟩
  obtain ⟨b26, rfl, h26, _⟩ := hvv rfl
  simp only [zp4, zp5, zp6, zp0, zp1, zp2, zp3]
  refine wpQ_call _ rfl rfl (fun X hX => by simp [go_sem]) (fun X hX => (writing_any p 1 1 (fi : Int) ⟨b26, 0, none⟩ (fun _ => (.slice (some ⟨zm, 0, none⟩) 512 512)) X (by decide) (fun q hq => ⟨_, _, _, rfl⟩) (fun q hq => by
    obtain ⟨b', e1, _, e3⟩ := hX.2 rfl
    injection e1 with e1
    injection e1 with e1
    injection e1 with e1
    rw [addr0, e1]
    exact e3.1 q hq)).mono ?_)
  rintro e X2 ⟨c2, v2, zz2, rfl, b1, b2, b3, b4⟩
  obtain ⟨G2, hG2⟩ : ∃ b, b = X.heap.size := ⟨_, rfl⟩
  rw [← hG2] at b2 b3
  have hG2 : Hid (V.heap.size ≤ G2) := by rw [hG2]; exact hideit (Below.size hX.1)
  replace b1 := hideit b1
  replace b2 := hideit b2
  replace b3 := hideit b3
  have k2 := hideit (Ext.trans hX.1 b4)
  have m2 := hideit (mkS_cl _ _ _ _ _ _ _ hX.2 b4)
  refine ⟨_, rfl, fun Y => Ext X2 Y, Ext.refl _, .inr (.inr ⟨fun Y hY => ⟨Ext.trans k2.out hY, mkS_cl _ _ _ _ _ _ _ m2.out hY⟩, b4, extCl X2⟩), ?_⟩
  clear b4 m2 hX
  simp only [zp4, zp5, zp6, zp0, zp1, zp2, zp3]
  refine wpQ_to _ rfl rfl fun X hX => ?_
  have hrw := hideit (RowAt.newOf X 2 (fnV g3 (bd3 p) (fr3 c2 c2)) 28 #[.func (.func 51) #[] #[.pointer (some ⟨c2, 0, none⟩)], .func (.func 19) #[.pointer (some ⟨p, 0, none⟩)] #[]] (fun i hi => by rcases (by omega : i = 0 ∨ i = 1) with rfl | rfl <;> rfl))
  have kk3 : Ext X (X.alloc (.cells #[.func (.func 51) #[] #[.pointer (some ⟨c2, 0, none⟩)], .func (.func 19) #[.pointer (some ⟨p, 0, none⟩)] #[]] 28)) := (Below.refl _ _).alloc (Nat.le_refl _) _
  obtain ⟨lb, hlb⟩ : ∃ b, b = X.heap.size := ⟨_, rfl⟩
  refine ⟨.slice (some ⟨lb, 0, none⟩) 2 2, X.alloc (.cells #[.func (.func 51) #[] #[.pointer (some ⟨c2, 0, none⟩)], .func (.func 19) #[.pointer (some ⟨p, 0, none⟩)] #[]] 28), by rw [hlb]; simp [go_sem], ?_⟩
  rw [← hlb] at hrw
  have hlb : Hid (V.heap.size ≤ lb) := by rw [hlb]; exact hideit (Below.size (Ext.trans k2.out hX))
  have k3 := hideit (Ext.trans hX kk3)
  generalize X.alloc (.cells #[.func (.func 51) #[] #[.pointer (some ⟨c2, 0, none⟩)], .func (.func 19) #[.pointer (some ⟨p, 0, none⟩)] #[]] 28) = X3 at hrw kk3 k3 ⊢
  refine ⟨fun Y => Ext X3 Y, Ext.refl _, .inr (.inr ⟨fun Y hY => Ext.trans k3.out hY, kk3, extCl X3⟩), ?_⟩
  clear kk3 hX
  simp only [zp4, zp5, zp6, zp0, zp1, zp2, zp3]
  refine wpQ_call (f := 25) (args := #[.pointer (some ⟨j, 0, none⟩), .slice (some ⟨lb, 0, none⟩) 2 2]) _ rfl rfl (fun X hX => by simp [go_sem]) (fun X hX => ?_)
  have e3 := hideit hX
  have e2 := hideit (Ext.trans k3.out hX)
  have e0 := hideit (Ext.trans k2.out e2.out)
  clear hX
  have nF : Hid (∀ b, w.heap.size ≤ b → ¬ F b) := fun b hb h => by
    have := hFl.out b h
    omega
  have hEs := hideit (Below.size hE.out)
  refine (jdo_ok j p fi co nu us9 bg N 2 lb F A D C (s4 A A (wrN D fi (fun _ => markF nx) 1) (wrN D fi (fun _ => markF nx) 1)) (s4 D (wrN D fi (fun _ => markF nx) 1) (wrN D fi (fun _ => markF nx) 1) (wrN D fi (fun _ => markF nx) 1)) (s4 C (C + 1) (C + 1) (C + 1)) g3 (bd3 p) (fr3 c2 c2) X (hJ.out.ext e0.out) (hJ.out.ext e0.out).dv (hrw.out.carry e3.out) (nF.out lb (Nat.le_trans hEs.out hlb.out)) (by decide) (fun i hi args Y => ?_) (fun i hi Y hY => ?_)).mono ?_
  · rcases (by omega : i = 0 ∨ i = 1) with rfl | rfl
    · exact enter51 _ _
    · exact enter19 _ _
  · rcases (by omega : i = 0 ∨ i = 1) with rfl | rfl
    · exact wcl_any p c2 1 N C fi (fun _ => (.slice (some ⟨zm, 0, none⟩) 512 512)) (fun _ => markF nx) F A D X Y (b3.out.ext e2.out) (b1.out.carry e2.out) b2.out hY (fun b hb => Nat.lt_of_not_le fun h => nF.out b (Nat.le_trans hEs.out (Nat.le_trans hG2.out h)) hb) (by decide) (by have := har.out; have := hco.out.1; omega) hC4.out (fun q hq => ⟨zm, 512, rfl, Nat.le_refl _, (hMl.out.carry e0.out), nF.out zm hzm.out⟩)
    · exact fl_any hY hC4.out
  rintro e X9 ⟨rfl, F', q1, q2, q3⟩
  refine ⟨_, rfl, fun Y => Y = X9, rfl, .inl (by simp), ?_⟩
  simp only [zp4, zp5, zp6, zp0, zp1, zp2, zp3]
  refine wpQ_g _ (.int .i64 0) rfl rfl (fun X hX => by simp [go_sem]) ?_
  simp only [zp4, zp5, zp6, zp0, zp1, zp2, zp3]
  refine wpQ_nil fun Y hY => ?_
  subst hY
  replace q1 : JR j p fi co nu us9 bg F' N (wrN D fi (fun _ => markF nx) 1) (wrN D fi (fun _ => markF nx) 1) (C + 1) Y := q1
  have hs : Hid (∀ b, F' b → F b ∨ w.heap.size ≤ b) := fun b hb => by
    rcases q3 b hb with h | h
    · exact .inl h
    · exact .inr (Nat.le_trans (Below.size (Ext.trans hE.out e0.out)) h)
  have hK : Hid (Keeps (fun i => F i ∨ i = j) w Y) := (Keeps.of_ext (Ext.trans hE.out e0.out)).trans q2 fun i hi => .inl hi
  clear hR hJ hT hE hM hMl b1 b2 b3 k2 k3 e0 e2 e3 nF hrw hlb q2 q3 hG2 hFl hEs
  have hJ := hideit q1
  have hR := hideit q1.row
  clear q1
  go_upto_region 9 with (fail)
  refine wp_region_lit ?_
  refine xm [some (.int .i64 0), some (.bool false)] (by kernel_rfl) (by simp [xr, go_sem]) ?_
  simp only [xw, p0, p1, p2, p3]
  go_upto_region 11 with (fail)
  refine wp_region_lit ?_
  refine xm [some (.pointer (some ⟨j, 0, none⟩)), some (.pointer (some ⟨j, 0, none⟩)), some (.pointer (some ⟨j, 0, none⟩)), some (.int .u64 (nx.toNat : Int)), some (.pointer (some ⟨j, 0, none⟩)), some (.pointer (some ⟨j, 3, none⟩))] (by kernel_rfl) (by simp [xr, go_sem]) ?_
  simp only [xw, p0, p1, p2, p3]
  have M0 : Y.cell? ⟨j, 3, none⟩ = some (.int .u64 (nu.toNat : Int)) := hJ.out.row.1 3 (by decide)
  have M1 : Y.frozen? ⟨j, 3, none⟩ = false := hJ.out.row.2.1 3 (by decide)
  have N0 : Hid (JR j p fi co nx us9 bg F' N (wrN D fi (fun _ => markF nx) 1) (wrN D fi (fun _ => markF nx) 1) (C + 1) (Y.setCell ⟨j, 3, none⟩ (.int .u64 (nx.toNat : Int)))) := hJ.out.set (.int .u64 (nx.toNat : Int)) j3
  have N1 : Hid (Keeps (fun i => F i ∨ i = j) w (Y.setCell ⟨j, 3, none⟩ (.int .u64 (nx.toNat : Int)))) := Keeps.setCell hK.out (.inl (.inr rfl)) (.int .u64 (nx.toNat : Int))
  refine xst rfl (Y.setCell ⟨j, 3, none⟩ (.int .u64 (nx.toNat : Int))) (by simp [go_sem, M0, M1]) ?_
  simp only [Act.put]
  generalize Y.setCell ⟨j, 3, none⟩ (.int .u64 (nx.toNat : Int)) = Z1 at N0 N1 ⊢
  clear M0 M1 hJ hK hR
  have hJ := N0
  have hK := N1
  have hR := hideit hJ.out.row
  clear N0 N1
  refine xm [some (.pointer (some ⟨j, 0, none⟩)), some (.pointer (some ⟨j, 4, none⟩))] (by kernel_rfl) (by simp [xr, go_sem]) ?_
  simp only [xw, p0, p1, p2, p3]
  have M0 : Z1.cell? ⟨j, 4, none⟩ = some (.int .i64 (us9 : Int)) := hJ.out.row.1 4 (by decide)
  have M1 : Z1.frozen? ⟨j, 4, none⟩ = false := hJ.out.row.2.1 4 (by decide)
  have N0 : Hid (JR j p fi co nx 0 bg F' N (wrN D fi (fun _ => markF nx) 1) (wrN D fi (fun _ => markF nx) 1) (C + 1) (Z1.setCell ⟨j, 4, none⟩ (.int .i64 0))) := hJ.out.set (.int .i64 0) (j4g (us' := 0))
  have N1 : Hid (Keeps (fun i => F i ∨ i = j) w (Z1.setCell ⟨j, 4, none⟩ (.int .i64 0))) := Keeps.setCell hK.out (.inl (.inr rfl)) (.int .i64 0)
  refine xst rfl (Z1.setCell ⟨j, 4, none⟩ (.int .i64 0)) (by simp [go_sem, M0, M1]) ?_
  simp only [Act.put]
  generalize Z1.setCell ⟨j, 4, none⟩ (.int .i64 0) = Z2 at N0 N1 ⊢
  clear M0 M1 hJ hK hR
  have hJ := N0
  have hK := N1
  have hR := hideit hJ.out.row
  clear N0 N1
  refine xm [some (.pointer (some ⟨j, 0, none⟩)), some (.pointer (some ⟨j, 5, none⟩))] (by kernel_rfl) (by simp [xr, go_sem]) ?_
  simp only [xw, p0, p1, p2, p3]
  have M0 : Z2.cell? ⟨j, 5, none⟩ = some (.bool bg) := hJ.out.row.1 5 (by decide)
  have M1 : Z2.frozen? ⟨j, 5, none⟩ = false := hJ.out.row.2.1 5 (by decide)
  have N0 : Hid (JR j p fi co nx 0 true F' N (wrN D fi (fun _ => markF nx) 1) (wrN D fi (fun _ => markF nx) 1) (C + 1) (Z2.setCell ⟨j, 5, none⟩ (.bool true))) := hJ.out.set (.bool true) j5g
  have N1 : Hid (Keeps (fun i => F i ∨ i = j) w (Z2.setCell ⟨j, 5, none⟩ (.bool true))) := Keeps.setCell hK.out (.inl (.inr rfl)) (.bool true)
  refine xst rfl (Z2.setCell ⟨j, 5, none⟩ (.bool true)) (by simp [go_sem, M0, M1]) ?_
  simp only [Act.put]
  generalize Z2.setCell ⟨j, 5, none⟩ (.bool true) = Z3 at N0 N1 ⊢
  clear M0 M1 hJ hK hR
  have hJ := N0
  have hK := N1
  have hR := hideit hJ.out.row
  clear N0 N1
  go_upto_region 12 with (fail)
  refine wp_region_lit ?_
  refine xm [some (.int .i64 0)] (by kernel_rfl) (by simp [xr, go_sem]) ?_
  simp only [xw, p0, p1, p2, p3]
  go_wp2
  go_ret
  exact ⟨rfl, F', hJ.out, hK.out, hs.out⟩
end Go.Proofs.YtiakkclabgelfaaDoor
namespace Go.Proofs.YtiakkclabgelfaaDoor
open Go.RowKit Go.BigFrame Go.Maps
set_option linter.unusedVariables false
set_option maxRecDepth 20000
set_option maxRecDepth 20000 in
set_option maxHeartbeats 4000000 in
theorem area_yes (p fi co N : Nat) (F : Nat → Prop) (A D : Nat → Nat → BitVec 8) (C : Nat) (w : World) (hD : DV F p N A D C w) (h1 : 16 ≤ co) (h2 : co ≤ 256) (h3 : fi + co ≤ N) : Calls Tryd.prog 31 #[.pointer (some ⟨p, 0, none⟩), .int .i64 (fi : Int), .int .i64 (co : Int)] w fun e w' => e = .returned (.bool true) ∧ Ext w w' := by
  have hN4 := hD.n4
  have f1 : (16 : Int) ≤ (co : Int) := by omega
  have f2 : (co : Int) ≤ 256 := by omega
  have f3 : (0 : Int) ≤ (fi : Int) := by omega
  obtain ⟨sb, hsb⟩ : ∃ a, a = N - co := ⟨_, rfl⟩
  have z1 : IntKind.i64.wrap ((N : Int) - (co : Int)) = (sb : Int) := by rw [IntKind.wrap_i64]; omega
  have f4 : (fi : Int) ≤ (sb : Int) := by omega
  replace hD := hideit hD
  replace z1 := hideit z1
  replace f1 := hideit f1
  replace f2 := hideit f2
  replace f3 := hideit f3
  replace f4 := hideit f4
  clear hsb
  have hE := hideit (Ext.refl w)
  go_enter Tryd.func31, Tryd.ntmps31
  go_upto_region 1 with (fail)
  refine wp_region_lit ?_
  refine xm [some (.pointer (some ⟨p, 0, none⟩)), some (.bool true), some (.bool true), some (.int .i64 (co : Int)), some (.bool true), some (.bool true), some (.bool true), some (.int .i64 (co : Int)), some (.bool true), some (.bool true), some (.bool true), some (.int .i64 (fi : Int)), some (.bool true), some (.bool true), some (.bool true), some (.int .i64 (fi : Int)), some (.pointer (some ⟨p, 0, none⟩))] (by kernel_rfl) (by simp [xr, go_sem, f1.out, f2.out]) ?_
  simp only [xw, p0, p1, p2, p3]
  refine wpList_callW rfl (by simp [go_sem]) ((dv_len hD.out).mono ?_)
  rintro e y1 ⟨rfl, h2⟩
  replace h2 : Ext w y1 := by rw [h2]; exact Ext.refl _
  refine ⟨_, rfl, ?_⟩
  simp only [zp0, zp1, zp2, zp3]
  replace hD := hideit (hD.out.ext h2)
  replace hE := hideit (Ext.trans hE.out (h2))
  clear h2
  refine xm [some (.int .i64 (co : Int)), some (.int .i64 (sb : Int)), some (.bool true), some (.bool true), some (.bool true)] (by kernel_rfl) (by simp [xr, go_sem, z1.out, f4.out]) ?_
  simp only [xw, p0, p1, p2, p3]
  go_wp2
  go_ret
  exact ⟨rfl, hE.out⟩
set_option maxRecDepth 20000 in
set_option maxHeartbeats 4000000 in
theorem init_ok (p fi co N : Nat) (F : Nat → Prop) (A D : Nat → Nat → BitVec 8) (C : Nat) (w : World) (hD : DV F p N A D C w) (hT : TabC w) (h1 : 16 ≤ co) (h2 : co ≤ 256) (h3 : fi + co ≤ N) (hC4 : C + 1 ≤ 4398046511104) : Calls Tryd.prog 15 #[.pointer (some ⟨p, 0, none⟩), .int .i64 (fi : Int), .int .i64 (co : Int)] w fun e w' => e = .returned (.int .i64 0) ∧ ∃ F', DV F' p N (wrN D fi (fun _ => markF 1#64) 1) (wrN D fi (fun _ => markF 1#64) 1) (C + 1) w' ∧ Keeps F w w' ∧ ∀ b, F' b → F b ∨ w.heap.size ≤ b := by
  have hFl := hideit hD.lt
  replace hD := hideit hD
  replace hT := hideit hT
  replace hC4 := hideit hC4
  have hE := hideit (Ext.refl w)
  go_enter Tryd.func15, Tryd.ntmps15
  go_upto_region 1 with (fail)
  refine wp_region_lit ?_
  refine xm [some (.pointer (some ⟨p, 0, none⟩)), some (.int .i64 (fi : Int)), some (.int .i64 (co : Int))] (by kernel_rfl) (by simp [xr, go_sem]) ?_
  simp only [xw, p0, p1, p2, p3]
  refine wpList_call rfl (by simp [go_sem]) ((area_yes p fi co N F A D C w hD.out h1 h2 h3).mono ?_)
  rintro e y1 ⟨rfl, hX2⟩
  refine ⟨_, rfl, ?_⟩
  simp only [zp0, zp1, zp2, zp3]
  replace hD := hideit (hD.out.ext hX2)
  replace hT := hideit (hT.out.ext hX2)
  replace hE := hideit (Ext.trans hE.out (hX2))
  clear hX2
  refine xm [some (.bool false)] (by kernel_rfl) (by simp [xr, go_sem]) ?_
  simp only [xw, p0, p1, p2, p3]
  have h0E := hE
  go_upto_region 3 with (fail)
  refine wp_region_lit ?_
  refine wpList_call rfl (by simp [go_sem]) ((mark_any 1#64 (by decide) y1 hT.out).mono ?_)
  rintro e y1 ⟨zm, rfl, hzm, hM, hX1⟩
  refine ⟨_, rfl, ?_⟩
  simp only [zp0, zp1, zp2, zp3]
  replace hD := hideit (hD.out.ext hX1)
  replace hT := hideit (hT.out.ext hX1)
  replace hE := hideit (Ext.trans hE.out (hX1))
  replace hzm : Hid (w.heap.size ≤ zm) := hideit (Nat.le_trans (Below.size h0E.out) hzm)
  replace hM := hideit (RowAt.lie hM 512 (Nat.le_refl _))
  clear hX1 h0E
  refine xm [some (.tuple #[.slice (some ⟨zm, 0, none⟩) 512 512, .int .i64 0]), some (.slice (some ⟨zm, 0, none⟩) 512 512), some (.int .i64 0), some (.slice (some ⟨zm, 0, none⟩) 512 512), some (.int .i64 0)] (by kernel_rfl) (by simp [xr, go_sem]) ?_
  simp only [xw, p0, p1, p2, p3]
  go_upto_region 4 with (fail)
  refine wp_region_lit ?_
  refine xm [some (.pointer (some ⟨p, 0, none⟩)), some (.int .i64 (fi : Int)), some (.slice (some ⟨zm, 0, none⟩) 512 512)] (by kernel_rfl) (by simp [xr, go_sem]) ?_
  simp only [xw, p0, p1, p2, p3]
  have kk1 : Ext y1 (y1.alloc (.cells #[(.slice (some ⟨zm, 0, none⟩) 512 512)] 39)) := (Below.refl _ _).alloc (Nat.le_refl _) _
  have hr1 := hideit (row1_new y1 (.slice (some ⟨zm, 0, none⟩) 512 512) 39)
  refine wpList_to rfl (.slice (some ⟨y1.heap.size, 0, none⟩) 1 1) (y1.alloc (.cells #[(.slice (some ⟨zm, 0, none⟩) 512 512)] 39)) (by simp [go_sem]) ?_
  simp only [zp0, zp1, zp2, zp3]
  obtain ⟨b26, hb26⟩ : ∃ b, b = y1.heap.size := ⟨_, rfl⟩
  rw [← hb26] at hr1 ⊢
  generalize y1.alloc (.cells #[(.slice (some ⟨zm, 0, none⟩) 512 512)] 39) = y2 at hr1 kk1 ⊢
  replace hD := hideit (hD.out.ext kk1)
  replace hM := hideit (hM.out.carry kk1)
  replace hE := hideit (Ext.trans hE.out kk1)
  clear hb26 kk1
  refine wpList_call rfl (by simp [go_sem]) ((writing_any p 1 1 (fi : Int) ⟨b26, 0, none⟩ (fun _ => (.slice (some ⟨zm, 0, none⟩) 512 512)) y2 (by decide) (fun q hq => ⟨_, _, _, rfl⟩) (fun q hq => by rw [addr0]; exact hr1.out.1 q hq)).mono ?_)
  rintro e y3 ⟨c2, v2, zz2, rfl, b1, b2, b3, b4⟩
  refine ⟨_, rfl, ?_⟩
  simp only [zp0, zp1, zp2, zp3]
  obtain ⟨G2, hG2⟩ : ∃ b, b = y2.heap.size := ⟨_, rfl⟩
  rw [← hG2] at b2 b3
  have hG2 : Hid (w.heap.size ≤ G2) := by rw [hG2]; exact hideit (Below.size hE.out)
  replace b1 := hideit b1
  replace b2 := hideit b2
  replace b3 := hideit b3
  replace hD := hideit (hD.out.ext b4)
  replace hM := hideit (hM.out.carry b4)
  replace hE := hideit (Ext.trans hE.out b4)
  clear b4 hr1
  refine xm [some (.pointer (some ⟨p, 0, none⟩)), some (.func (.func 19) #[.pointer (some ⟨p, 0, none⟩)] #[])] (by kernel_rfl) (by simp [xr, go_sem]) ?_
  simp only [xw, p0, p1, p2, p3]
  have hrw := hideit (RowAt.newOf y3 2 (fnV g3 (bd3 p) (fr3 c2 c2)) 28 #[.func (.func 51) #[] #[.pointer (some ⟨c2, 0, none⟩)], .func (.func 19) #[.pointer (some ⟨p, 0, none⟩)] #[]] (fun i hi => by rcases (by omega : i = 0 ∨ i = 1) with rfl | rfl <;> rfl))
  have kk3 : Ext y3 (y3.alloc (.cells #[.func (.func 51) #[] #[.pointer (some ⟨c2, 0, none⟩)], .func (.func 19) #[.pointer (some ⟨p, 0, none⟩)] #[]] 28)) := (Below.refl _ _).alloc (Nat.le_refl _) _
  refine wpList_to rfl (.slice (some ⟨y3.heap.size, 0, none⟩) 2 2) (y3.alloc (.cells #[.func (.func 51) #[] #[.pointer (some ⟨c2, 0, none⟩)], .func (.func 19) #[.pointer (some ⟨p, 0, none⟩)] #[]] 28)) (by simp [go_sem]) ?_
  simp only [zp0, zp1, zp2, zp3]
  obtain ⟨lb, hlb⟩ : ∃ b, b = y3.heap.size := ⟨_, rfl⟩
  rw [← hlb] at hrw ⊢
  have hlb : Hid (w.heap.size ≤ lb) := by rw [hlb]; exact hideit (Below.size hE.out)
  generalize y3.alloc (.cells #[.func (.func 51) #[] #[.pointer (some ⟨c2, 0, none⟩)], .func (.func 19) #[.pointer (some ⟨p, 0, none⟩)] #[]] 28) = y4 at hrw kk3 ⊢
  replace b1 := hideit (b1.out.carry kk3)
  replace b3 := hideit (b3.out.ext kk3)
  replace hD := hideit (hD.out.ext kk3)
  replace hM := hideit (hM.out.carry kk3)
  replace hE := hideit (Ext.trans hE.out kk3)
  clear kk3
  have nF : Hid (∀ b, w.heap.size ≤ b → ¬ F b) := fun b hb h => by
    have := hFl.out b h
    omega
  refine wpList_call rfl (by simp [go_sem]) ((ino_ok p N 2 lb F (s4 A A (wrN D fi (fun _ => markF 1#64) 1) (wrN D fi (fun _ => markF 1#64) 1)) (s4 D (wrN D fi (fun _ => markF 1#64) 1) (wrN D fi (fun _ => markF 1#64) 1) (wrN D fi (fun _ => markF 1#64) 1)) (s4 C (C + 1) (C + 1) (C + 1)) g3 (bd3 p) (fr3 c2 c2) y4 hD.out hrw.out (nF.out lb hlb.out) (by decide) (fun i hi args Y => by
    rcases (by omega : i = 0 ∨ i = 1) with rfl | rfl
    · exact enter51 _ _
    · exact enter19 _ _) (fun i hi Y hY => by
    rcases (by omega : i = 0 ∨ i = 1) with rfl | rfl
    · exact wcl_any p c2 1 N C fi (fun _ => (.slice (some ⟨zm, 0, none⟩) 512 512)) (fun _ => markF 1#64) F A D y4 Y b3.out b1.out b2.out hY (fun b hb => Nat.lt_of_not_le fun h => nF.out b (Nat.le_trans hG2.out h) hb) (by decide) (by omega) hC4.out (fun q hq => ⟨zm, 512, rfl, Nat.le_refl _, hM.out, nF.out zm hzm.out⟩)
    · exact fl_any hY hC4.out)).mono ?_)
  rintro e y5 ⟨rfl, F', q1, q2, q3⟩
  refine ⟨_, rfl, ?_⟩
  simp only [zp0, zp1, zp2, zp3]
  replace q1 : Hid (DV F' p N (wrN D fi (fun _ => markF 1#64) 1) (wrN D fi (fun _ => markF 1#64) 1) (C + 1) y5) := hideit q1
  have hs : Hid (∀ b, F' b → F b ∨ w.heap.size ≤ b) := fun b hb => by
    rcases q3 b hb with h | h
    · exact .inl h
    · exact .inr (Nat.le_trans (Below.size hE.out) h)
  have hK : Hid (Keeps F w y5) := (Keeps.of_ext hE.out).trans q2 fun i hi => .inl hi
  clear q2 q3
  refine xm [some (.int .i64 0)] (by kernel_rfl) (by simp [xr, go_sem]) ?_
  simp only [xw, p0, p1, p2, p3]
  go_wp2
  go_ret
  exact ⟨rfl, F', q1.out, hK.out, hs.out⟩
end Go.Proofs.YtiakkclabgelfaaDoor
