/-
  An area opened. What must come of every journal: the disk.
-/
import Derived.Test.YtiakkclabgelfaaDoorQc1
import Derived.Test.YtiakkclabgelfaaDoorQc47
namespace Go.Proofs.YtiakkclabgelfaaDoor
open Go.RowKit Go.BigFrame Go.Maps
set_option linter.unusedVariables false
set_option maxRecDepth 20000
theorem bld53 (p : Nat) (fi co nu : Int) (X : World) : (Instr.build 53 #[(0, .pointer (some ⟨p, 0, none⟩)), (1, .int .i64 fi), (2, .int .i64 co), (3, .int .u64 nu)]).run Tryd.prog X = .ok (.agg #[.pointer (some ⟨p, 0, none⟩), .int .i64 fi, .int .i64 co, .int .u64 nu, .int .i64 0, .bool false, .bool false]) X := by kernel_rfl
theorem RDs.down {B B' m : Nat} {v : Value} {bs : Nat → Int} {us : Nat → Value} {ls : Nat → Nat} {fs : Nat → Nat → BitVec 8} {X : World} (h : RDs B v m bs us ls fs X) (hb : B' ≤ B) : RDs B' v m bs us ls fs X := ⟨h.own.down hb, fun i hi => ⟨(h.byt i hi).1.down hb, (h.byt i hi).2⟩⟩
theorem rm_mark (x : BitVec 64) (hx : x ≠ 0#64) (u : Value) (w : World) (hu : BV u 512 (markF x) w) (hT : TabC w) : Calls Tryd.prog 34 #[u] w fun e w' => e = .returned (.tuple #[.int .u64 (x.toNat : Int), .int .i64 0]) ∧ Ext w w' := by
  refine (readm_any u 512 (markF x) w hu (by decide) hT).mono ?_
  rintro e w' ⟨hE, ⟨_, h⟩ | ⟨h, _⟩⟩
  · rw [nP_mark] at h
    exact ⟨h, hE⟩
  · exact absurd (isMk_mark x hx) h
set_option maxRecDepth 20000 in
set_option maxHeartbeats 4000000 in
theorem open_ok (p fi co m : Nat) (nu : BitVec 64) (F : Nat → Prop) (N : Nat) (A D : Nat → Nat → BitVec 8) (C : Nat) (w : World) (hD : DV F p N A D C w) (hT : TabC w) (h1 : 16 ≤ co) (h2 : co ≤ 256) (h3 : fi + co ≤ N) (hm : m + 1 = co) (hC : C ≤ 4398046511104) (hnu : nu ≠ 0#64) (hmk : D fi = markF nu) (K : Nat) (tn : Nat → Nat) (tb : Nat → Nat → Int) (tl : Nat → Nat → Nat) (tf : Nat → Nat → Nat → BitVec 8) (hch : ∀ k, k < K → okT (nuK nu k) (tn k) (tb k) (tl k) (tf k) ∧ ¬ fgL fi co N (tn k) (tb k) ∧ ∀ i, i < tn k + 2 → D (fi + 1 + (ofN tn k + i)) = trF (nuK nu k) (tmK (tl k) (tf k) (tn k)) (tn k) (tb k) (tf k) i) (hle : ofN tn K ≤ m) (hend : ¬ (hasP (nuK nu K) (m - ofN tn K) (fun _ => 512) (fun i => D (fi + 1 + (ofN tn K + i))) ∧ isTx (nuK nu K) (fun _ => 512) (fun i => D (fi + 1 + (ofN tn K + i))))) : Calls Tryd.prog 16 #[.pointer (some ⟨p, 0, none⟩), .int .i64 (fi : Int), .int .i64 (co : Int)] w fun e w' => ∃ j v, e = .returned (.tuple #[.pointer (some ⟨j, 0, none⟩), v, .int .i64 0]) ∧ (∃ us', RDs w.heap.size v (smN tn K) (caN 0 tn tb K) us' (caN 0 tn tl K) (caN (fun _ => 0) tn tf K) w') ∧ JR j p fi co (nuK nu K) (ofN tn K) false F N A D C w' ∧ w.heap.size ≤ j ∧ Ext w w' := by
  have hFl := hideit hD.lt
  have hN4 := hD.n4
  have z1 : IntKind.i64.wrap ((fi : Int) + 1) = ((fi + 1 : Nat) : Int) := by rw [IntKind.wrap_i64]; omega
  have z2 : IntKind.i64.wrap ((co : Int) - 1) = (m : Int) := by rw [IntKind.wrap_i64]; omega
  obtain ⟨a1, ha1⟩ : ∃ a, a = fi + 1 := ⟨_, rfl⟩
  rw [← ha1] at z1 hch hend
  replace ha1 := hideit ha1
  replace z1 := hideit z1
  replace z2 := hideit z2
  replace hD := hideit hD
  replace hT := hideit hT
  replace hch := hideit hch
  replace hend := hideit hend
  replace hmk := hideit hmk
  clear hN4
  have hE := hideit (Ext.refl w)
  go_enter Tryd.func16, Tryd.ntmps16
  go_upto_region 1 with (fail)
  refine wp_region_lit ?_
  refine xm [some (.pointer (some ⟨p, 0, none⟩)), some (.int .i64 (fi : Int)), some (.int .i64 (co : Int))] (by kernel_rfl) (by simp [xr, go_sem]) ?_
  simp only [xw, p0, p1, p2, p3]
  refine wpList_call rfl (by simp [go_sem]) ((area_yes p fi co N F A D C w hD.out h1 h2 h3).mono ?_)
  rintro e y1 ⟨rfl, hX2⟩
  refine ⟨_, rfl, ?_⟩
  simp only [zp0, zp1, zp2, zp3]
  replace hD := hideit (hD.out.ext hX2)
  replace hT := hideit (hT.out.ext hX2)
  replace hE := hideit (Ext.trans hE.out (hX2))
  clear hX2
  refine xm [some (.bool false)] (by kernel_rfl) (by simp [xr, go_sem]) ?_
  simp only [xw, p0, p1, p2, p3]
  go_upto_region 3 with (fail)
  refine wp_region_lit ?_
  refine xm [some (.pointer (some ⟨p, 0, none⟩)), some (.int .i64 (fi : Int))] (by kernel_rfl) (by simp [xr, go_sem]) ?_
  simp only [xw, p0, p1, p2, p3]
  refine wpList_call rfl (by simp [go_sem]) ((dv_read2 hD.out fi (by omega) hC).mono ?_)
  rintro e y1 ⟨z, zc, rfl, hz, hcp, hZ, hX1⟩
  refine ⟨_, rfl, ?_⟩
  simp only [zp0, zp1, zp2, zp3]
  replace hD := hideit (hD.out.ext hX1)
  replace hT := hideit (hT.out.ext hX1)
  replace hE := hideit (Ext.trans hE.out (hX1))
  rw [hmk.out] at hZ
  have hbv : BV (.slice (some ⟨z, 0, none⟩) 512 zc) 512 (markF nu) y1 := .inr ⟨_, zc, rfl, hcp, RowAt.lie hZ 512 (Nat.le_refl _)⟩
  replace hbv := hideit hbv
  clear hX1 hZ hz
  refine xm [some (.tuple #[.slice (some ⟨z, 0, none⟩) 512 zc, .int .i64 0]), some (.slice (some ⟨z, 0, none⟩) 512 zc), some (.int .i64 0), some (.slice (some ⟨z, 0, none⟩) 512 zc), some (.int .i64 0)] (by kernel_rfl) (by simp [xr, go_sem]) ?_
  simp only [xw, p0, p1, p2, p3]
  go_upto_region 4 with (fail)
  refine wp_region_lit ?_
  refine xm [some (.int .i64 0), some (.bool false)] (by kernel_rfl) (by simp [xr, go_sem]) ?_
  simp only [xw, p0, p1, p2, p3]
  go_upto_region 6 with (fail)
  refine wp_region_lit ?_
  refine xm [some (.slice (some ⟨z, 0, none⟩) 512 zc)] (by kernel_rfl) (by simp [xr, go_sem]) ?_
  simp only [xw, p0, p1, p2, p3]
  refine wpList_call rfl (by simp [go_sem]) ((rm_mark nu hnu (.slice (some ⟨z, 0, none⟩) 512 zc) y1 hbv.out hT.out).mono ?_)
  rintro e y3 ⟨rfl, hX4⟩
  refine ⟨_, rfl, ?_⟩
  simp only [zp0, zp1, zp2, zp3]
  replace hD := hideit (hD.out.ext hX4)
  replace hT := hideit (hT.out.ext hX4)
  replace hbv := hideit (hbv.out.ext hX4)
  replace hE := hideit (Ext.trans hE.out (hX4))
  clear hX4
  refine xm [some (.tuple #[.int .u64 (nu.toNat : Int), .int .i64 0]), some (.int .u64 (nu.toNat : Int)), some (.int .i64 0), some (.int .u64 (nu.toNat : Int)), some (.int .i64 0)] (by kernel_rfl) (by simp [xr, go_sem]) ?_
  simp only [xw, p0, p1, p2, p3]
  go_upto_region 7 with (fail)
  refine wp_region_lit ?_
  refine xm [some (.int .i64 0), some (.bool false)] (by kernel_rfl) (by simp [xr, go_sem]) ?_
  simp only [xw, p0, p1, p2, p3]
  clear hbv
  go_upto_region 9 with (fail)
  refine wp_region_lit ?_
  refine xm [some (.pointer (some ⟨p, 0, none⟩)), some (.int .i64 (fi : Int)), some (.int .i64 (a1 : Int)), some (.int .i64 (co : Int)), some (.int .i64 (m : Int))] (by kernel_rfl) (by simp [xr, go_sem, z1.out, z2.out]) ?_
  simp only [xw, p0, p1, p2, p3]
  refine wpList_call rfl (by simp [go_sem]) ((reading_ok p a1 m N F A D C y3 hD.out (by have := ha1.out; omega) (by omega) hC).mono ?_)
  rintro e y2 ⟨vv, us, rfl, hBL, hX2⟩
  refine ⟨_, rfl, ?_⟩
  simp only [zp0, zp1, zp2, zp3]
  replace hD := hideit (hD.out.ext hX2)
  replace hT := hideit (hT.out.ext hX2)
  replace hE := hideit (Ext.trans hE.out (hX2))
  replace hBL := hideit hBL
  clear hX2
  refine xm [some (.tuple #[vv, .int .i64 0]), some (vv), some (.int .i64 0), some (vv), some (.int .i64 0)] (by kernel_rfl) (by simp [xr, go_sem]) ?_
  simp only [xw, p0, p1, p2, p3]
  obtain ⟨vb, cp, rfl, _, _, _, hvr⟩ := hBL.out.own.lies (by omega)
  have hvb := hideit hvr.2.2
  clear hvr
  have hzb : Hid (∀ i, i < m → ∀ z, (us i).ownBlock = some z → z < y2.heap.size) := fun i hi z hz => by
    obtain ⟨z', c, e1, _, e3, _⟩ := hBL.out.byt i hi
    rw [e1] at hz
    injection hz with hz
    rw [← hz]
    exact e3.2
  go_upto_region 10 with (fail)
  refine wp_region_lit ?_
  refine xm [some (.int .i64 0), some (.bool false)] (by kernel_rfl) (by simp [xr, go_sem]) ?_
  simp only [xw, p0, p1, p2, p3]
  go_upto_region 12 with (fail)
  refine wp_region_lit ?_
  refine xm [some (.pointer (some ⟨p, 0, none⟩)), some (.int .i64 (fi : Int)), some (.int .i64 (co : Int)), some (.int .u64 (nu.toNat : Int))] (by kernel_rfl) (by simp [xr, go_sem]) ?_
  simp only [xw, p0, p1, p2, p3]
  refine wpList_run rfl (.agg #[.pointer (some ⟨p, 0, none⟩), .int .i64 (fi : Int), .int .i64 (co : Int), .int .u64 (nu.toNat : Int), .int .i64 0, .bool false, .bool false]) (xbuild 53 [(0, .tmp 48), (1, .tmp 49), (2, .tmp 50), (3, .tmp 51)] rfl _ (bld53 _ _ _ _ _)) ?_
  simp only [zp0, zp1, zp2, zp3]
  have kk : Ext y2 (y2.alloc (.cells #[.pointer (some ⟨p, 0, none⟩), .int .i64 (fi : Int), .int .i64 (co : Int), .int .u64 (nu.toNat : Int), .int .i64 0, .bool false, .bool false] 53)) := (Below.refl _ _).alloc (Nat.le_refl _) _
  have hjr : RowAt y2.heap.size 7 (jV p fi co nu 0 false) (y2.alloc (.cells #[.pointer (some ⟨p, 0, none⟩), .int .i64 (fi : Int), .int .i64 (co : Int), .int .u64 (nu.toNat : Int), .int .i64 0, .bool false, .bool false] 53)) := RowAt.new y2 7 (jV p fi co nu 0 false) 53
  have hjn : ¬ IsB y2.heap.size (y2.alloc (.cells #[.pointer (some ⟨p, 0, none⟩), .int .i64 (fi : Int), .int .i64 (co : Int), .int .u64 (nu.toNat : Int), .int .i64 0, .bool false, .bool false] 53)) := by
    rintro ⟨c, f, h⟩
    rw [heap_alloc_new] at h
    injection h with h
    injection h with _ h
    cases h
  have hjf : ¬ F y2.heap.size := fun e => by
    have := hFl.out _ e
    have := Below.size hE.out
    omega
  refine wpList_to rfl (.pointer (some ⟨y2.heap.size, 0, none⟩)) (y2.alloc (.cells #[.pointer (some ⟨p, 0, none⟩), .int .i64 (fi : Int), .int .i64 (co : Int), .int .u64 (nu.toNat : Int), .int .i64 0, .bool false, .bool false] 53)) (by simp [go_sem]) ?_
  simp only [zp0, zp1, zp2, zp3]
  have hJ : Hid (JR y2.heap.size p fi co nu 0 false F N A D C (y2.alloc (.cells #[.pointer (some ⟨p, 0, none⟩), .int .i64 (fi : Int), .int .i64 (co : Int), .int .u64 (nu.toNat : Int), .int .i64 0, .bool false, .bool false] 53))) := ⟨hjr, hjn, hjf, hD.out.ext kk, h1, h2, h3⟩
  replace hT := hideit (hT.out.ext kk)
  replace hBL := hideit (hBL.out.ext kk)
  have hjw : Hid (w.heap.size ≤ y2.heap.size) := hideit (Below.size hE.out)
  have hj0 : y2.heap.size ≠ 0 := by
    have := hvb.out
    omega
  have hvj : ¬ vb = y2.heap.size := Nat.ne_of_lt hvb.out
  have hzj : ∀ i, i < m → ∀ z, (us i).ownBlock = some z → ¬ z = y2.heap.size := fun i hi z hz => Nat.ne_of_lt (hzb.out i hi z hz)
  replace hE := hideit (Ext.trans hE.out kk)
  clear hjr hjn hjf kk hD hvb hzb
  generalize y2.alloc (.cells #[.pointer (some ⟨p, 0, none⟩), .int .i64 (fi : Int), .int .i64 (co : Int), .int .u64 (nu.toNat : Int), .int .i64 0, .bool false, .bool false] 53) = y4 at hJ hT hBL hE ⊢
  generalize y2.heap.size = j at hJ hjw hj0 hvj hzj ⊢
  refine xm [some (.pointer (some ⟨j, 0, none⟩))] (by kernel_rfl) (by simp [xr, go_sem]) ?_
  simp only [xw, p0, p1, p2, p3]
  go_upto_region 13 with (fail)
  refine wp_region_lit ?_
  refine xm [some (.pointer (some ⟨j, 0, none⟩)), some (.pointer (some ⟨j, 0, none⟩)), some (.slice (some ⟨vb, 0, none⟩) m cp)] (by kernel_rfl) (by simp [xr, go_sem]) ?_
  simp only [xw, p0, p1, p2, p3]
  refine wpList_call rfl (by simp [go_sem]) ((find_ok j p fi co nu false F N A D C _ vb cp m us _ y4 hJ.out hBL.out hvj hzj (by omega) (by omega) hT.out hj0 K tn tb tl tf hch.out hle hend.out).mono ?_)
  rintro e y5 ⟨v5, us5, rfl, q1, q2, q3⟩
  refine ⟨_, rfl, ?_⟩
  simp only [zp0, zp1, zp2, zp3]
  refine xm [some (.pointer (some ⟨j, 0, none⟩)), some (v5), some (.int .i64 0)] (by kernel_rfl) (by simp [xr, go_sem]) ?_
  simp only [xw, p0, p1, p2, p3]
  go_wp2
  refine bodyPost_ret (res3 rfl _ _ _) rfl ?_
  exact ⟨j, v5, rfl, ⟨us5, q1.down (Below.size hE.out)⟩, q2, hjw.out, below_ext hE.out (Nat.le_refl _) (q3.below (Below.size hE.out) (fun i hi => hi ▸ hjw.out))⟩
end Go.Proofs.YtiakkclabgelfaaDoor
namespace Go.Proofs.YtiakkclabgelfaaDoor
open Go.RowKit Go.BigFrame Go.Maps
set_option linter.unusedVariables false
set_option maxRecDepth 20000
theorem tm_one (c : BitVec 8) (hc : like 512 (fun _ => c) = false) : tmK (fun _ => 512) (fun _ _ => c) 1 = 0#64 := by
  unfold tmK
  rw [if_neg (by show ¬ like 512 (fun _ => c) = true; rw [hc]; decide)]
  rfl
theorem okT_one (x : BitVec 64) (hx : x ≠ 0#64) (b : Int) (h0 : 0 ≤ b) (h1 : b < 4096) (c : BitVec 8) (hc : like 512 (fun _ => c) = false) : okT x 1 (fun _ => b) (fun _ => 512) (fun _ _ => c) := by
  refine ⟨⟨hx, by decide, by decide, by rw [tm_one c hc]; decide, fun i hi => ⟨⟨h0, h1⟩, fun j hj => by omega⟩⟩, ?_⟩
  rintro ⟨i, _, h⟩
  exact h rfl
theorem like120 : like 512 (fun _ => 120#8) = false := by decide
theorem like121 : like 512 (fun _ => 121#8) = false := by decide
theorem seal_first (x t : BitVec 64) (n : Nat) (bs : Nat → Int) (fs : Nat → Nat → BitVec 8) : trF x t n bs fs (n + 1) 0 = 68#8 := by
  unfold trF
  rw [if_pos rfl]
  rfl
theorem noPl {l : Nat} {f : Nat → BitVec 8} (h : f 0 = 0#8) : ¬ isPl l f := fun hp => by
  have h2 := hp.2.1
  unfold eqB at h2
  have h3 := (of_decide_eq_true h2).2 0 (by decide)
  rw [h] at h3
  exact absurd h3 (by decide)
def lxT (x : BitVec 64) (b : Int) (c : BitVec 8) : Nat → Nat → BitVec 8 := trF x (tmK (fun _ => 512) (fun _ _ => c) 1) 1 (fun _ => b) (fun _ _ => c)
def lx0 : Nat → Nat → BitVec 8 := wrN (fun _ _ => 0#8) 2 (fun _ => markF 1#64) 1
def lx1 : Nat → Nat → BitVec 8 := wrN lx0 2 (fun _ => markF 17#64) 1
def lxA : Nat → Nat → BitVec 8 := wrN lx1 3 (lxT 17#64 20 120#8) 2
def lxD : Nat → Nat → BitVec 8 := wrN lxA 5 (fun _ => lxT 17#64 20 120#8 2) 1
def lxE : Nat → Nat → BitVec 8 := wrN lxD 6 (lxT 18#64 21 121#8) 2
theorem lx_blank : ¬ (hasP (nuK 1#64 0) (15 - ofN (fun _ => 1) 0) (fun _ => 512) (fun i => lx0 (2 + 1 + (ofN (fun _ => 1) 0 + i))) ∧ isTx (nuK 1#64 0) (fun _ => 512) (fun i => lx0 (2 + 1 + (ofN (fun _ => 1) 0 + i)))) := fun h => noPl (l := 512) (f := lx0 3) rfl h.1.2.1
theorem lx_mark : lxE 2 = markF 17#64 := rfl
theorem lx_tx (i : Nat) (hi : i < 3) : lxE (2 + 1 + (0 + i)) = lxT 17#64 20 120#8 i := by
  rcases (by omega : i = 0 ∨ i = 1 ∨ i = 2) with rfl | rfl | rfl <;> rfl
theorem lx_end : ¬ (hasP (nuK 17#64 1) (15 - ofN (fun _ => 1) 1) (fun _ => 512) (fun i => lxE (2 + 1 + (ofN (fun _ => 1) 1 + i))) ∧ isTx (nuK 17#64 1) (fun _ => 512) (fun i => lxE (2 + 1 + (ofN (fun _ => 1) 1 + i)))) := fun h => by
  have hc : cP (lxE 6) = 1 := (tx_back (x := 18#64) (m := 3) (ls' := fun _ => 512) (fs' := lxT 18#64 21 121#8) (okT_one 18#64 (by decide) 21 (by decide) (by decide) 121#8 like121) (by decide) (fun _ _ => rfl) (fun _ _ => rfl)).2.2.1
  have h2 := h.2.2.2 2 (by show 2 < cP (lxE 6) + 2; rw [hc]; decide)
  unfold eqB at h2
  have h3 := (of_decide_eq_true h2).2 0 (by show 0 < 512; decide)
  have h4 : (2 : Nat) = cP (lxE 6) + 1 := by rw [hc]
  have h5 := (congrArg (fun q => trF (nuK 17#64 1) (tmK (fun _ => 512) (unL (fun _ => 512) fun i => lxE (2 + 1 + (ofN (fun _ => 1) 1 + i))) (cP (lxE 6))) (cP (lxE 6)) (bP (lxE 6)) (unL (fun _ => 512) fun i => lxE (2 + 1 + (ofN (fun _ => 1) 1 + i))) q 0) h4).symm.trans h3
  rw [seal_first] at h5
  exact absurd h5 (by decide)
end Go.Proofs.YtiakkclabgelfaaDoor
