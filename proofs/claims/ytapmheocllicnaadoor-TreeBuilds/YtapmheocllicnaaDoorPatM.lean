/-
  Pat, Pok.
-/
import Derived.Test.YtapmheocllicnaaDoorBld
import Derived.Test.YtapmheocllicnaaDoorChk
namespace Go.Proofs.YtapmheocllicnaaDoor
open Go.RowKit Go.BigFrame
theorem ret_row2 {P : Program} {F : Func} {tmps : Array Value} {k k2 : Nat} {t : TypeId} {b n : Nat} {g : Nat → Value} {X : World} {d : TypeDesc} (hF : F.results = #[.cell k t, .tmp k2]) (ht : tmps.getD k undef = .pointer (some ⟨b, 0, none⟩)) (h : RowAt b n g X)
    (hu : P.underlying t = some d) (hd : d.isRow = true) (hi : (P.info? t).map (·.size) = some n) : Sem.run P (results F tmps) X = .ok (.tuple #[.agg (row n g).toArray, tmps.getD k2 undef]) X := by
  have hl := run_loadVar_mid (P := P) X b 0 t (row n g) d h.range hu hd (by rw [row_length]; exact hi)
  unfold results
  rw [hF]
  simp only [List.mapM_toArray, List.mapM_cons, List.mapM_nil, ht]
  simp [asAddr, hl]
theorem isP_true {n k : Nat} {ls : Nat → Nat} (h1 : 1 ≤ n) (h2 : n ≤ 4096) (hk : k = lvN n) (hls : ∀ i, i < k → ls i = 512) : isP (n : Int) k ls = true := decide_eq_true ⟨by omega, by omega, by rw [Int.toNat_natCast]; exact hk, hls⟩
theorem isP_spec {n : Int} {k : Nat} {ls : Nat → Nat} (h : isP n k ls = true) : ∃ m : Nat, n = (m : Int) ∧ 1 ≤ m ∧ m ≤ 4096 ∧ k = lvN m ∧ ∀ i, i < k → ls i = 512 := by
  have := of_decide_eq_true h
  exact ⟨n.toNat, by omega, by omega, by omega, this.2.2.1, this.2.2.2⟩
set_option maxRecDepth 20000 in
set_option maxHeartbeats 2000000 in
theorem troot_no (n : Int) (k : Nat) (pv : Value) (us : Nat → Value) (ls : Nat → Nat) (bs : Nat → Nat → BitVec 8) (w : World) (hP : Parts pv k us ls bs w) (hk : k ≤ 140737488351232) (hno : isP n k ls = false) :
    Calls Tryd.prog 20 #[.int .i64 n, pv] w fun e w' => e = .returned (.tuple #[.agg (row 32 (yv fun _ => 0#8)).toArray, .int .i64 1]) ∧ Ext w w' := by
  have hz := zero24
  have HR0 := hideit (RowAt.new w 32 (yv fun _ => 0#8) 25)
  have HE0 : Ext w (w.alloc (.cells (row 32 (yv fun _ => 0#8)).toArray 25)) := (Below.refl _ _).alloc (Nat.le_refl _) _
  have kp := path_any n pv k us ls bs _ (hP.ext HE0) (by omega)
  rw [hno] at kp
  replace kp := hideit kp
  replace HE0 := hideit HE0
  clear hP hno
  go_enter Tryd.func20, Tryd.ntmps20
  go_upto_region 1 with (fail)
  generalize w.alloc (.cells (row 32 (yv fun _ => 0#8)).toArray 25) = w1 at *
  go_upto_region 2 with (go_at_call 33; refine kp.out.mono ?_; rintro e w5 ⟨rfl, hX5⟩; have HR1 := hideit (HR0.out.carry hX5); have HE1 := hideit (Ext.trans HE0.out hX5); clear hX5 HR0 HE0 kp)
  refine wp_region_lit ?_
  refine wpList_build rfl 25 [] rfl (.agg (row 32 (yv fun _ => 0#8)).toArray) (build25 _) ?_
  simp only [Act.put, List.setIfInBounds_toArray, List.set_cons_zero, List.set_cons_succ]
  refine wpList_store_mid rfl 25 (.tmp 4) (.tmp 11) rfl _ 0 (row 32 (yv fun _ => 0#8)).toArray rfl rfl (by rw [row_size]; exact HR1.out.there) (by rw [row_size]; exact info24) (row_one fun _ _ => rfl) ?_
  have res8 := hideit (HR1.out.cells (g' := yv fun _ => 0#8))
  have hE8 := hideit (below_setCells w.heap.size (Nat.le_refl _) (row 32 (yv fun _ => 0#8)) 0 w5 HE1.out)
  rw [show (row 32 (yv fun _ => 0#8)).toArray.toList = row 32 (yv fun _ => 0#8) from rfl]
  generalize w5.setCells w.heap.size 0 (row 32 (yv fun _ => 0#8)) = w8 at *
  clear HR1 HE1
  simp only [Act.put]
  go_wp2
  exact bodyPost_ret (ret_row2 Tryd.results20 rfl res8.out Tryd.underlying25 rfl info24) rfl ⟨rfl, hE8.out⟩
set_option maxRecDepth 20000 in
set_option maxHeartbeats 2000000 in
theorem troot_ok (n k : Nat) (h1 : 1 ≤ n) (h2 : n ≤ 4096) (hkN : k = lvN n) (pv : Value) (us : Nat → Value) (ls : Nat → Nat) (bs : Nat → Nat → BitVec 8) (w : World) (hP : Parts pv k us ls bs w) (hls : ∀ i, i < k → ls i = 512) (hC : TabC w) :
    Calls Tryd.prog 20 #[.int .i64 (n : Int), pv] w fun e w' => e = .returned (.tuple #[.agg (row 32 (yv (rootF n (nodeF (BitVec.ofNat 8 (k - 1)) (bs (k - 1)) 512)))).toArray, .int .i64 0]) ∧ Ext w w' := by
  have hk3 := lvN_pos n
  rw [← hkN] at hk3
  obtain ⟨ov, cap, rfl⟩ := hP.form
  have hz := zero24
  have HR0 := hideit (RowAt.new w 32 (yv fun _ => 0#8) 25)
  have HE0 : Ext w (w.alloc (.cells (row 32 (yv fun _ => 0#8)).toArray 25)) := (Below.refl _ _).alloc (Nat.le_refl _) _
  have kp := path_any (n : Int) _ k us ls bs _ (hP.ext HE0) (by omega)
  rw [isP_true h1 h2 hkN hls] at kp
  replace kp := hideit kp
  obtain ⟨t, ht⟩ : ∃ t, t = k - 1 := ⟨_, rfl⟩
  rw [← ht]
  have htk : t < k := by omega
  have hk' : k = t + 1 := by omega
  obtain ⟨R, hR⟩ : ∃ R, R = rootF n (nodeF (BitVec.ofNat 8 t) (bs t) 512) := ⟨_, rfl⟩
  rw [← hR]
  replace HE0 := hideit HE0
  replace hP := hideit hP
  replace hC := hideit hC
  replace hls := hideit hls
  replace hR := hideit hR
  have hw : IntKind.i64.wrap ((k : Int) - 1) = (t : Int) := by rw [IntKind.wrap_i64]; omega
  replace hw := hideit hw
  have t1 : (t : Int) < (k : Int) := by omega
  clear ht hkN hk'
  go_enter Tryd.func20, Tryd.ntmps20
  go_upto_region 1 with (fail)
  generalize w.alloc (.cells (row 32 (yv fun _ => 0#8)).toArray 25) = w1 at *
  go_upto_region 3 with (go_at_call 33; refine kp.out.mono ?_; rintro e w5 ⟨rfl, hX5⟩; have HR1 := hideit (HR0.out.carry hX5); have HE1 := hideit (Ext.trans HE0.out hX5); clear hX5 HR0 HE0 kp)
  refine wp_region_lit ?_
  refine wpList_run rfl (.slice ov k cap) (by simp [go_sem]) ?_
  simp only [Act.put, List.setIfInBounds_toArray, List.set_cons_zero, List.set_cons_succ]
  refine wpList_run rfl (.int .i64 (k : Int)) (by simp [go_sem]) ?_
  simp only [Act.put, List.setIfInBounds_toArray, List.set_cons_zero, List.set_cons_succ]
  refine wpList_run rfl (.int .i64 (t : Int)) (by simp [go_sem, hw.out]) ?_
  simp only [Act.put, List.setIfInBounds_toArray, List.set_cons_zero, List.set_cons_succ]
  obtain ⟨om, cm, hum⟩ := (hP.out.2 t htk).form
  obtain ⟨a, rfl, hcell⟩ : ∃ a, ov = some a ∧ w5.cell? (a.add t) = some (us t) := by
    rcases hP.out.1 with ⟨h, h0⟩ | ⟨a, cap', h, _, h3⟩
    · omega
    · injection h with e1 e2 e3
      exact ⟨a, e1, (h3.carry HE1.out).1 t htk⟩
  have hbv := hP.out.2 t htk
  rw [hls.out t htk] at hum hbv
  rw [hum] at hcell hbv
  have kn := hideit (node_any (t : Int) (BitVec.ofNat 8 t) (by rw [BitVec.toNat_ofNat]; omega) (.slice om 512 cm) 512 (bs t) w5 (hbv.ext HE1.out) (hC.out.ext HE1.out) (by decide))
  clear hum hbv hw
  go_upto_region 4 with (fail)
  refine wp_region_lit ?_
  refine wpList_run rfl (.int .i64 (n : Int)) (by simp [go_sem]) ?_
  simp only [Act.put, List.setIfInBounds_toArray, List.set_cons_zero, List.set_cons_succ]
  refine wpList_run rfl (.int .i64 (t : Int)) (by simp [go_sem]) ?_
  simp only [Act.put, List.setIfInBounds_toArray, List.set_cons_zero, List.set_cons_succ]
  refine wpList_run rfl (.slice (some a) k cap) (by simp [go_sem]) ?_
  simp only [Act.put, List.setIfInBounds_toArray, List.set_cons_zero, List.set_cons_succ]
  refine wpList_run rfl (.int .i64 (t : Int)) (by simp [go_sem]) ?_
  simp only [Act.put, List.setIfInBounds_toArray, List.set_cons_zero, List.set_cons_succ]
  refine wpList_run rfl (.pointer (some (a.add t))) (by simp [go_sem, t1]) ?_
  simp only [Act.put, List.setIfInBounds_toArray, List.set_cons_zero, List.set_cons_succ]
  refine wpList_run rfl (.slice om 512 cm) (by simp [go_sem, hcell]) ?_
  simp only [Act.put, List.setIfInBounds_toArray, List.set_cons_zero, List.set_cons_succ]
  refine wpList_call rfl (by simp [go_sem]) ((kn.out).mono ?_)
  rintro e w6 ⟨rfl, hX6⟩
  refine ⟨_, rfl, ?_⟩
  simp only [Act.put, List.setIfInBounds_toArray, List.set_cons_zero, List.set_cons_succ]
  have HR6 := hideit (HR1.out.carry hX6)
  have HE6 := hideit (Ext.trans HE1.out hX6)
  have kr := root_any n (nodeF (BitVec.ofNat 8 t) (bs t) 512) w6 (hC.out.ext HE6.out)
  rw [← hR.out] at kr
  replace kr := hideit kr
  clear kn hcell hX6 HR1 HE1
  refine wpList_call rfl (by simp [go_sem]) ((kr.out).mono ?_)
  rintro e w7 ⟨rfl, hX7⟩
  refine ⟨_, rfl, ?_⟩
  simp only [Act.put, List.setIfInBounds_toArray, List.set_cons_zero, List.set_cons_succ]
  have HR7 := hideit (HR6.out.carry hX7)
  have HE7 := hideit (Ext.trans HE6.out hX7)
  clear kr HR6 HE6 hX7 hR
  refine wpList_store_mid rfl 25 (.tmp 4) (.tmp 22) rfl _ 0 (row 32 (yv R)).toArray rfl rfl (by rw [row_size]; exact HR7.out.there) (by rw [row_size]; exact info24) (row_one fun _ _ => rfl) ?_
  have res8 := hideit (HR7.out.cells (g' := yv R))
  have hE8 := hideit (below_setCells w.heap.size (Nat.le_refl _) (row 32 (yv R)) 0 w7 HE7.out)
  rw [show (row 32 (yv R)).toArray.toList = row 32 (yv R) from rfl]
  generalize w7.setCells w.heap.size 0 (row 32 (yv R)) = w8 at *
  clear HR7 HE7
  simp only [Act.put]
  go_wp2
  exact bodyPost_ret (ret_row2 Tryd.results20 rfl res8.out Tryd.underlying25 rfl info24) rfl ⟨rfl, hE8.out⟩
theorem elem33 : ElemB Tryd.prog 33 23 24 := elem_b Tryd.underlying33 (by kernel_rfl) (by kernel_rfl) (by kernel_rfl)
theorem up_lt (n x : Nat) (hx : x < n) : ∀ j, x / 16 ^ j < lcP n j
  | 0 => by simpa [lcP] using hx
  | j + 1 => by
    have := up_lt n x hx j
    rw [Nat.pow_succ, ← Nat.div_div_eq_div_mul]
    show x / 16 ^ j / 16 < lc n j
    have e : lc n j = (lcP n j + 15) / 16 := by cases j <;> rfl
    omega
def ptV (Bs : Nat → Nat) (x j : Nat) : Value := ndV (Bs j) (x / 16 ^ (j + 1))
set_option maxRecDepth 20000 in
set_option maxHeartbeats 4000000 in
theorem tpath_any (n x N vb vcap : Nat) (h1 : 1 ≤ n) (h2 : n ≤ 4096) (hN : N = lvN n) (hx : x < n) (Bs : Nat → Nat) (d : Nat → Nat → BitVec 8) (w : World) (hR : RowAt vb N (lvV n Bs) w) (hl : ∀ j, j < N → LevAt (Bs j) (lc n j) (nodeB n d j) w) :
    Calls Tryd.prog 19 #[.slice (some ⟨vb, 0, none⟩) N vcap, .int .i64 (x : Int)] w fun e w' => ∃ pv, e = .returned pv ∧ OwnB w.heap.size 23 pv N (ptV Bs x) w' ∧ Ext w w' := by
  have hN3 := lvN_pos n
  rw [← hN] at hN3
  have hup := hideit (up_lt n x hx)
  have hlv := bld_lv n h1 h2
  rw [← hN] at hlv
  replace hlv := hideit hlv
  replace hR := hideit hR
  replace hl := hideit hl
  clear hN h1
  go_enter Tryd.func19, Tryd.ntmps19
  go_wp2
  go_loopw [1, 5, 6] (fun xv pv iv X => ∃ j q : Nat, j ≤ N ∧ iv = .int .i64 (j : Int) ∧ xv = .int .i64 (q : Int) ∧ q = x / 16 ^ j ∧ OwnB w.heap.size 23 pv j (ptV Bs x) X ∧ Ext w X) (fun _ _ iv _ => N - (intOf iv).toNat)
  case atStart => exact ⟨0, x, Nat.zero_le _, rfl, rfl, by simp, own_nil _ _ _ _, Ext.refl _⟩
  case round =>
    obtain ⟨j, q, hj, rfl, rfl, hq, hO, hE⟩ := hrel
    replace hO := hideit hO
    replace hE := hideit hE
    by_cases hlt : j < N
    · have j0 : (0 : Int) ≤ (j : Int) := by omega
      have j1 : (j : Int) < (N : Int) := by omega
      have hq4 : q ≤ 4096 := by rw [hq]; have := Nat.div_le_self x (16 ^ j); omega
      obtain ⟨p, hp⟩ : ∃ p, p = q / 16 := ⟨_, rfl⟩
      have hp2 : p = x / 16 ^ (j + 1) := by rw [hp, hq, Nat.pow_succ, ← Nat.div_div_eq_div_mul]
      have hpl : p < lc n j := by rw [hp2]; exact hup.out (j + 1)
      obtain ⟨c, hc⟩ : ∃ c, c = lc n j := ⟨_, rfl⟩
      have g2 := (hlv.out j hlt).2.1
      rw [← hc] at hpl g2
      have eq : Int.tdiv (q : Int) 16 = (p : Int) := by rw [hp, Int.tdiv_eq_ediv_of_nonneg (by omega)]; omega
      have ew : IntKind.i64.wrap (p : Int) = (p : Int) := by rw [IntKind.wrap_i64]; omega
      have e1 := (hR.out.carry hE.out).1 j hlt
      rw [show lvV n Bs j = .slice (some ⟨Bs j, 0, none⟩) c c by rw [hc]; rfl] at e1
      have e2 := ((hl.out j hlt).carry hE.out).list.1 p (by rw [← hc]; exact hpl)
      have p0 : ¬ (p : Int) < 0 := by omega
      have p1 : ¬ (c : Int) ≤ (p : Int) := by omega
      have p2 : (p : Int) < (c : Int) := by omega
      replace hp := hideit hp
      replace hp2 := hideit hp2
      replace hq := hideit hq
      replace hc := hideit hc
      go_upto_region 5 with (fail)
      refine wp_region_lit ?_
      refine wpList_run rfl (.int .i64 (q : Int)) (by simp [go_sem]) ?_
      simp only [Act.put, List.setIfInBounds_toArray, List.set_cons_zero, List.set_cons_succ]
      refine wpList_run rfl (.int .i64 (p : Int)) (by simp [go_sem, eq, ew]) ?_
      simp only [Act.put, List.setIfInBounds_toArray, List.set_cons_zero, List.set_cons_succ]
      go_upto_region 8 with (fail)
      have hX : Ext wr (wr.alloc (.cells #[ndV (Bs j) p] 23)) := (Below.refl _ _).alloc (Nat.le_refl _) _
      have hN' := hideit (lie_us wr 1 #[ndV (Bs j) p] (fun _ => ndV (Bs j) p) (fun j hj => by
        have : j = 0 := by omega
        subst this
        rfl) 23)
      have hO2 := hideit (hO.out.ext hX)
      have hE2 := hideit (Ext.trans hE.out hX)
      clear hO hE hX
      refine wp_region_lit ?_
      refine wpList_run rfl (u5) (by simp [go_sem]) ?_
      simp only [Act.put, List.setIfInBounds_toArray, List.set_cons_zero, List.set_cons_succ]
      refine wpList_run rfl (.slice (some ⟨vb, 0, none⟩) N vcap) (by simp [go_sem]) ?_
      simp only [Act.put, List.setIfInBounds_toArray, List.set_cons_zero, List.set_cons_succ]
      refine wpList_run rfl (.int .i64 (j : Int)) (by simp [go_sem]) ?_
      simp only [Act.put, List.setIfInBounds_toArray, List.set_cons_zero, List.set_cons_succ]
      refine wpList_run rfl (.pointer (some ⟨vb, j, none⟩)) (by simp [go_sem, j0, j1]) ?_
      simp only [Act.put, List.setIfInBounds_toArray, List.set_cons_zero, List.set_cons_succ]
      refine wpList_run rfl (.slice (some ⟨Bs j, 0, none⟩) c c) (by simp [go_sem, e1]) ?_
      simp only [Act.put, List.setIfInBounds_toArray, List.set_cons_zero, List.set_cons_succ]
      refine wpList_run rfl (.int .i64 (p : Int)) (by simp [go_sem]) ?_
      simp only [Act.put, List.setIfInBounds_toArray, List.set_cons_zero, List.set_cons_succ]
      refine wpList_run rfl (.pointer (some ⟨Bs j, p, none⟩)) (by simp [go_sem, p2]) ?_
      simp only [Act.put, List.setIfInBounds_toArray, List.set_cons_zero, List.set_cons_succ]
      refine wpList_run rfl (ndV (Bs j) p) (by simp [go_sem, e2]) ?_
      simp only [Act.put, List.setIfInBounds_toArray, List.set_cons_zero, List.set_cons_succ]
      refine wpList_to rfl (.slice (some ⟨wr.heap.size, 0, none⟩) 1 1) (wr.alloc (.cells #[ndV (Bs j) p] 23)) (by simp [go_sem, ndV]) ?_
      simp only [Act.put, List.setIfInBounds_toArray, List.set_cons_zero, List.set_cons_succ]
      refine wpList_growE (n := j) (base := w.heap.size) elem33 rfl (.tmp 26) (.tmp 34) rfl rfl hO2.out ⟨wr.heap.size, 0, none⟩ 1 1 (fun _ => ndV (Bs j) p) (ptV Bs x) rfl hN'.out (fun _ _ => rfl) (fun _ _ => rfl) (fun t ht => by rw [show t = 0 by omega]; unfold ptV; rw [hp2.out]; rfl) (by omega) (by omega) (Below.size hE2.out) ?_
      intro v' Y hO' hg'
      have hE3 := hideit (grownE hE2.out hO2.out (Nat.le_refl _) hg')
      replace hO' := hideit hO'
      clear hO2 hN' hE2 hg' e1 e2
      simp only [Act.put, List.setIfInBounds_toArray, List.set_cons_zero, List.set_cons_succ]
      go_wp2
      exact ⟨⟨j + 1, p, by omega, by go_num, rfl, hp2.out, hO'.out, hE3.out⟩, by simp [intOf]; omega⟩
    · obtain rfl : j = N := by omega
      have j1 : ¬ (j : Int) < (j : Int) := by omega
      replace hq := hideit hq
      go_wp2
      go_ret
      exact ⟨_, rfl, hO.out, hE.out⟩
theorem tpath_parts {n x N : Nat} {pv : Value} {Bs : Nat → Nat} {d : Nat → Nat → BitVec 8} {base : Nat} {w : World} (hO : OwnB base 23 pv N (ptV Bs x) w) (h0 : 0 < N) (hl : ∀ j, j < N → LevAt (Bs j) (lc n j) (nodeB n d j) w) (hx : x < n) : Parts pv N (ptV Bs x) (fun _ => 512) (fun j => nodeB n d j (x / 16 ^ (j + 1))) w := by
  obtain ⟨b, cap, rfl, _, hc, _, hr⟩ := hO.lies h0
  refine ⟨.inr ⟨_, cap, rfl, hc, hr.lie N (Nat.le_refl _)⟩, fun j hj => ?_⟩
  exact ((hl j hj).each (x / 16 ^ (j + 1)) (up_lt n x hx (j + 1))).bv 512 (Nat.le_refl _)
end Go.Proofs.YtapmheocllicnaaDoor

namespace Go.Proofs.YtapmheocllicnaaDoor
open Go.RowKit
/-- the nodes of a leaf's path -/
def pbs (n : Nat) (d : Nat → Nat → BitVec 8) (x j : Nat) : Nat → BitVec 8 := nodeB n d j (x / 16 ^ (j + 1))
theorem pbs_child (n : Nat) (d : Nat → Nat → BitVec 8) (x q t : Nat) (hx : x < n) (ht : t < 32) : pbs n d x q (32 * plc x q + t) = digB n d q (x / 16 ^ q) t := by
  have hu := up_lt n x hx q
  unfold pbs nodeB nodeC plc
  rw [Nat.pow_succ, ← Nat.div_div_eq_div_mul]
  generalize x / 16 ^ q = X at *
  rw [show 16 * (X / 16) + (32 * (X % 16) + t) / 32 = X by omega, show (32 * (X % 16) + t) % 32 = t by omega, if_pos hu]
theorem path_ok (n : Nat) (d : Nat → Nat → BitVec 8) (x : Nat) (hx : x < n) : ∀ q, (chL (d x) x (pbs n d x) (List.range q)).1 = digB n d q (x / 16 ^ q) ∧ (chL (d x) x (pbs n d x) (List.range q)).2
  | 0 => ⟨by rw [Nat.pow_zero, Nat.div_one]; rfl, trivial⟩
  | q + 1 => by
    obtain ⟨h1, h2⟩ := path_ok n d x hx q
    have e : chL (d x) x (pbs n d x) (List.range (q + 1)) = chS x (pbs n d x) (chL (d x) x (pbs n d x) (List.range q)) q := by
      unfold chL
      rw [List.range_succ, List.foldl_append]
      rfl
    rw [e]
    exact ⟨rfl, h2, fun t ht => by rw [h1]; exact pbs_child n d x q t hx ht⟩
theorem top_zero (n x N : Nat) (h1 : 1 ≤ n) (h2 : n ≤ 4096) (hN : N = lvN n) (hx : x < n) : x / 16 ^ N = 0 := by
  have := up_lt n x hx N
  have e := bld_top n h1 h2
  rw [← hN] at e
  rw [e] at this
  exact Nat.lt_one_iff.1 this
theorem root_top (n x N : Nat) (d : Nat → Nat → BitVec 8) (h1 : 1 ≤ n) (h2 : n ≤ 4096) (hN : N = lvN n) (hx : x < n) : nodeF (BitVec.ofNat 8 (N - 1)) (pbs n d x (N - 1)) 512 = digB n d N 0 := by
  have hp := lvN_pos n
  have hz := top_zero n x N h1 h2 hN hx
  obtain ⟨q, rfl⟩ : ∃ q, N = q + 1 := ⟨N - 1, by omega⟩
  rw [Nat.add_sub_cancel]
  unfold pbs
  rw [hz]
  rfl
theorem path_right (n x N : Nat) (d : Nat → Nat → BitVec 8) (h1 : 1 ≤ n) (h2 : n ≤ 4096) (hN : N = lvN n) (hx : x < n) :
    (chL (d x) x (pbs n d x) (List.range N)).2 ∧ ∀ t, t < 32 → rootF n (chL (d x) x (pbs n d x) (List.range N)).1 t = rootF n (digB n d N 0) t := by
  obtain ⟨e1, e2⟩ := path_ok n d x hx N
  refine ⟨e2, fun t _ => ?_⟩
  rw [e1, top_zero n x N h1 h2 hN hx]
end Go.Proofs.YtapmheocllicnaaDoor
