/-
  Whether bytes begin like a journal's block. The plan of redos.
-/
import Derived.Test.YtiakkclabgelfaaDoorQc1
import Derived.Test.YtiakkclabgelfaaDoorQc18
namespace Go.Proofs.YtiakkclabgelfaaDoor
set_option maxRecDepth 20000
open Go.RowKit Go.BigFrame
theorem cut4 (a : Addr) (l cp : Nat) (h : 4 ≤ l) (hc : l ≤ cp) (X : World) : Sem.run Tryd.prog (Instr.sliceAt 39 (.slice (some a) l cp) none (some (.int .i64 4)) none) X = .ok (.slice (some a) 4 cp) X := by
  have h1 : (4 : Int) ≤ (cp : Int) := by omega
  simp [go_sem, h1]
set_option maxRecDepth 20000 in
set_option maxHeartbeats 4000000 in
theorem prefix_any (u v : Value) (l : Nat) (f g : Nat → BitVec 8) (w : World) (hu : PV u l f w) (hv : BV v 4 g w) (hl : l ≤ 140737488355328) : Calls Tryd.prog 87 #[u, v] w fun e w' => e = .returned (.bool (decide (4 ≤ l) && eqB 4 4 f g)) ∧ w' = w := by
  obtain ⟨ov, cv, rfl⟩ := hv.form
  by_cases h4 : 4 ≤ l
  · obtain ⟨a, cp, rfl, hcp, hla⟩ : ∃ a cp, u = .slice (some a) l cp ∧ l ≤ cp ∧ LieAt a l (yv f) w := by
      rcases hu.bv (by omega) with ⟨_, h⟩ | h
      · omega
      · exact h
    have hu4 : BV (.slice (some a) 4 cp) 4 f w := .inr ⟨a, cp, rfl, by omega, ⟨fun j hj => hla.1 j (by omega), hla.2⟩⟩
    have ke := hideit (equal_any _ _ 4 4 f g w hu4 hv)
    have hcut := cut4 a l cp h4 hcp w
    rw [decide_eq_true h4, Bool.true_and]
    have l4 : (4 : Int) ≤ (l : Int) := by omega
    generalize eqB 4 4 f g = r at *
    clear hu hv hu4 hla hcp h4
    go_enter Tryd.func87, Tryd.ntmps87
    go_upto_region 1 with (fail)
    refine wp_region_lit ?_
    refine wpList_run rfl (.slice (some a) l cp) (by simp [go_sem]) ?_
    simp only [zp0, zp1, zp2, zp3]
    refine wpList_run rfl (.int .i64 (l : Int)) (by simp [go_sem]) ?_
    simp only [zp0, zp1, zp2, zp3]
    refine wpList_run rfl (.slice ov 4 cv) (by simp [go_sem]) ?_
    simp only [zp0, zp1, zp2, zp3]
    refine wpList_run rfl (.int .i64 4) (by simp [go_sem]) ?_
    simp only [zp0, zp1, zp2, zp3]
    refine wpList_run rfl (.bool true) (by simp [go_sem, l4]) ?_
    simp only [zp0, zp1, zp2, zp3]
    refine wpList_run rfl (.bool true) (by simp [go_sem]) ?_
    simp only [zp0, zp1, zp2, zp3]
    refine wpList_runW rfl (.slice (some a) l cp) (by simp [go_sem]) ?_
    simp only [zp0, zp1, zp2, zp3]
    refine wpList_runW rfl (.slice ov 4 cv) (by simp [go_sem]) ?_
    simp only [zp0, zp1, zp2, zp3]
    refine wpList_runW rfl (.int .i64 4) (by simp [go_sem]) ?_
    simp only [zp0, zp1, zp2, zp3]
    refine wpList_runW rfl (.slice (some a) 4 cp) (by simp [go_sem, hcut]) ?_
    simp only [zp0, zp1, zp2, zp3]
    refine wpList_runW rfl (.slice ov 4 cv) (by simp [go_sem]) ?_
    simp only [zp0, zp1, zp2, zp3]
    refine wpList_callW rfl (by simp [go_sem]) ((ke.out).mono ?_)
    rintro e w9 ⟨rfl, hw9⟩
    refine ⟨_, rfl, ?_⟩
    simp only [zp0, zp1, zp2, zp3]
    rw [hw9]
    clear hw9
    refine wpList_run rfl (.bool r) (by simp [go_sem]) ?_
    simp only [zp0, zp1, zp2, zp3]
    refine wpList_run rfl (.bool r) (by simp [go_sem]) ?_
    simp only [zp0, zp1, zp2, zp3]
    clear ke hcut
    go_wp2
    go_ret
    exact ⟨rfl, rfl⟩
  · obtain ⟨ou, cu, rfl⟩ := hu.form
    rw [decide_eq_false h4, Bool.false_and]
    have l4 : ¬ (4 : Int) ≤ (l : Int) := by omega
    clear hu hv h4
    go_enter Tryd.func87, Tryd.ntmps87
    go_upto_region 1 with (fail)
    refine wp_region_lit ?_
    refine wpList_run rfl (.slice ou l cu) (by simp [go_sem]) ?_
    simp only [zp0, zp1, zp2, zp3]
    refine wpList_run rfl (.int .i64 (l : Int)) (by simp [go_sem]) ?_
    simp only [zp0, zp1, zp2, zp3]
    refine wpList_run rfl (.slice ov 4 cv) (by simp [go_sem]) ?_
    simp only [zp0, zp1, zp2, zp3]
    refine wpList_run rfl (.int .i64 4) (by simp [go_sem]) ?_
    simp only [zp0, zp1, zp2, zp3]
    refine wpList_run rfl (.bool false) (by simp [go_sem, l4]) ?_
    simp only [zp0, zp1, zp2, zp3]
    refine wpList_run rfl (.bool false) (by simp [go_sem]) ?_
    simp only [zp0, zp1, zp2, zp3]
    refine wpList_skip rfl ?_
    simp only [zp0, zp1, zp2, zp3]
    refine wpList_skip rfl ?_
    simp only [zp0, zp1, zp2, zp3]
    refine wpList_skip rfl ?_
    simp only [zp0, zp1, zp2, zp3]
    refine wpList_skip rfl ?_
    simp only [zp0, zp1, zp2, zp3]
    refine wpList_skip rfl ?_
    simp only [zp0, zp1, zp2, zp3]
    refine wpList_skip rfl ?_
    simp only [zp0, zp1, zp2, zp3]
    refine wpList_run rfl (.bool false) (by simp [go_sem]) ?_
    simp only [zp0, zp1, zp2, zp3]
    refine wpList_run rfl (.bool false) (by simp [go_sem]) ?_
    simp only [zp0, zp1, zp2, zp3]
    go_wp2
    go_ret
    exact ⟨rfl, rfl⟩
def pre4 (s : ByteArray) (l : Nat) (f : Nat → BitVec 8) : Bool := decide (4 ≤ l) && eqB 4 4 f (labF s)
set_option maxRecDepth 20000 in
set_option maxHeartbeats 4000000 in
theorem pre_any (s : ByteArray) (hs : s.size = 4) (c : Nat) (u : Value) (l : Nat) (f : Nat → BitVec 8) (w : World) (hc : w.cell? ⟨c, 0, none⟩ = some u) (hu : PV u l f w) (hl : l ≤ 140737488355328) : Calls Tryd.prog 86 #[.string s, .pointer (some ⟨c, 0, none⟩)] w fun e w' => e = .returned (.bool (pre4 s l f)) ∧ Ext w w' := by
  obtain ⟨v2, w2, cv, hb2, hX2⟩ := run_label s w
  rw [hs] at hb2
  obtain ⟨o2, c2, rfl⟩ := hb2.form
  obtain ⟨ou, cu, rfl⟩ := hu.form
  have kp : Hid (Calls Tryd.prog 87 #[.slice ou l cu, .slice o2 4 c2] w2 fun e w' => e = .returned (.bool (pre4 s l f)) ∧ w' = w2) := prefix_any _ _ l f (labF s) w2 (hu.ext hX2) hb2 hl
  generalize pre4 s l f = r at *
  replace hX2 := hideit hX2
  clear hu hb2
  go_enter Tryd.func86, Tryd.ntmps86
  go_upto_region 1 with (fail)
  refine wp_region_lit ?_
  refine wpList_run rfl (.slice ou l cu) (by simp [go_sem, hc]) ?_
  simp only [zp0, zp1, zp2, zp3]
  refine wpList_run rfl (.string s) (by simp [go_sem]) ?_
  simp only [zp0, zp1, zp2, zp3]
  refine wpList_to rfl (.slice o2 4 c2) (w2) (by simp [go_sem, cv]) ?_
  simp only [zp0, zp1, zp2, zp3]
  refine wpList_call rfl (by simp [go_sem]) ((kp.out).mono ?_)
  rintro e w9 ⟨rfl, hw9⟩
  refine ⟨_, rfl, ?_⟩
  simp only [zp0, zp1, zp2, zp3]
  rw [hw9]
  clear hw9
  refine wpList_run rfl (.bool r) (by simp [go_sem]) ?_
  simp only [zp0, zp1, zp2, zp3]
  clear kp cv hc
  go_wp2
  go_ret
  exact ⟨rfl, hX2.out⟩
def nmS (i : Nat) : ByteArray := if i = 0 then ⟨#[80, 76, 65, 78]⟩ else if i = 1 then ⟨#[68, 79, 78, 69]⟩ else ⟨#[77, 65, 82, 75]⟩
theorem nmS_size (i : Nat) : (nmS i).size = 4 := by
  unfold nmS
  split
  · rfl
  · split <;> rfl
def like (l : Nat) (f : Nat → BitVec 8) : Bool := pre4 (nmS 0) l f || pre4 (nmS 1) l f || pre4 (nmS 2) l f
set_option maxRecDepth 20000 in
set_option maxHeartbeats 4000000 in
theorem index_names (b c : Nat) (u : Value) (l : Nat) (f : Nat → BitVec 8) (w : World) (hb : RowAt b 3 (fun i => .string (nmS i)) w) (hc : w.cell? ⟨c, 0, none⟩ = some u) (hu : PV u l f w) (hl : l ≤ 140737488355328) : Calls Tryd.prog 96 #[.slice (some ⟨b, 0, none⟩) 3 3, .func (.func 86) #[] #[.pointer (some ⟨c, 0, none⟩)]] w fun e w' => ∃ r : Int, e = .returned (.int .i64 r) ∧ decide (0 ≤ r) = like l f ∧ Ext w w' := by
  replace hb := hideit hb
  replace hc := hideit hc
  replace hu := hideit hu
  go_enter Tryd.func96, Tryd.ntmps96
  go_wp2
  go_loopw [5, 8] (fun _ iv X => ∃ k : Nat, k ≤ 3 ∧ iv = .int .i64 (k : Int) ∧ (∀ i, i < k → pre4 (nmS i) l f = false) ∧ Ext w X) (fun _ iv _ => 5 - (intOf iv).toNat)
  case atStart => exact ⟨0, Nat.zero_le _, rfl, fun i hi => absurd hi (Nat.not_lt_zero _), Ext.refl _⟩
  case round =>
    obtain ⟨k, hk, rfl, hI, hE⟩ := hrel
    replace hI := hideit hI
    by_cases hlt : k < 3
    · have k0 : (0 : Int) ≤ (k : Int) := by omega
      have k1 : (k : Int) < 3 := by omega
      have en : wr.cell? ⟨b, k, none⟩ = some (.string (nmS k)) := cell_ext' hE (hb.out.1 k hlt)
      have kp := hideit (pre_any (nmS k) (nmS_size k) c u l f wr (cell_ext' hE hc.out) (hu.out.ext hE) hl)
      replace hE := hideit hE
      generalize hn : nmS k = s at en kp
      have hpv : Hid (pre4 (nmS k) l f = pre4 s l f) := by show pre4 (nmS k) l f = pre4 s l f; rw [hn]
      clear hn
      generalize pre4 s l f = r at *
      go_upto_region 2 with (fail)
      refine wp_region_lit ?_
      refine wpList_run rfl (.bool true) (by simp [go_sem, k1]) ?_
      simp only [zp0, zp1, zp2, zp3]
      go_upto_region 3 with (fail)
      refine wp_region_lit ?_
      refine wpList_run rfl (.int .i64 (k : Int)) (by simp [go_sem]) ?_
      simp only [zp0, zp1, zp2, zp3]
      refine wpList_run rfl (.int .i64 (k : Int)) (by simp [go_sem]) ?_
      simp only [zp0, zp1, zp2, zp3]
      go_upto_region 4 with (fail)
      refine wp_region_lit ?_
      refine wpList_run rfl (.func (.func 86) #[] #[.pointer (some ⟨c, 0, none⟩)]) (by simp [go_sem]) ?_
      simp only [zp0, zp1, zp2, zp3]
      refine wpList_run rfl (.slice (some ⟨b, 0, none⟩) 3 3) (by simp [go_sem]) ?_
      simp only [zp0, zp1, zp2, zp3]
      refine wpList_run rfl (.int .i64 (k : Int)) (by simp [go_sem]) ?_
      simp only [zp0, zp1, zp2, zp3]
      refine wpList_run rfl (.pointer (some ⟨b, k, none⟩)) (by simp [go_sem, k1]) ?_
      simp only [zp0, zp1, zp2, zp3]
      refine wpList_run rfl (.string s) (by simp [go_sem, en]) ?_
      simp only [zp0, zp1, zp2, zp3]
      refine wpList_call rfl (by simp [go_sem]) ((kp.out).mono ?_)
      rintro e w9 ⟨rfl, hX9⟩
      refine ⟨_, rfl, ?_⟩
      simp only [zp0, zp1, zp2, zp3]
      have hE9 := hideit (Ext.trans hE.out hX9)
      clear kp en hX9 hE
      cases r with
      | true =>
        go_wp2
        go_ret
        refine ⟨_, rfl, ?_, hE9.out⟩
        rw [decide_eq_true k0]
        have := hpv.out
        unfold like
        rcases (by omega : k = 0 ∨ k = 1 ∨ k = 2) with rfl | rfl | rfl <;> simp [this]
      | false =>
        go_wp2
        refine ⟨⟨k + 1, by omega, by go_num, fun i hi => ?_, hE9.out⟩, by simp [intOf]; omega⟩
        by_cases e : i = k
        · rw [e]
          exact hpv.out
        · exact hI.out i (by omega)
    · obtain rfl : k = 3 := by omega
      replace hE := hideit hE
      go_wp2
      go_ret
      refine ⟨_, rfl, ?_, hE.out⟩
      have h0 := hI.out 0 (by decide)
      have h1 := hI.out 1 (by decide)
      have h2 := hI.out 2 (by decide)
      unfold like
      rw [h0, h1, h2]
      rfl
set_option maxRecDepth 20000 in
set_option maxHeartbeats 4000000 in
theorem contains_names (b c : Nat) (u : Value) (l : Nat) (f : Nat → BitVec 8) (w : World) (hb : RowAt b 3 (fun i => .string (nmS i)) w) (hc : w.cell? ⟨c, 0, none⟩ = some u) (hu : PV u l f w) (hl : l ≤ 140737488355328) : Calls Tryd.prog 85 #[.slice (some ⟨b, 0, none⟩) 3 3, .func (.func 86) #[] #[.pointer (some ⟨c, 0, none⟩)]] w fun e w' => e = .returned (.bool (like l f)) ∧ Ext w w' := by
  have ki := hideit (index_names b c u l f w hb hc hu hl)
  clear hb hc hu
  go_enter Tryd.func85, Tryd.ntmps85
  go_upto_region 1 with (fail)
  refine wp_region_lit ?_
  refine wpList_run rfl (.slice (some ⟨b, 0, none⟩) 3 3) (by simp [go_sem]) ?_
  simp only [zp0, zp1, zp2, zp3]
  refine wpList_run rfl (.func (.func 86) #[] #[.pointer (some ⟨c, 0, none⟩)]) (by simp [go_sem]) ?_
  simp only [zp0, zp1, zp2, zp3]
  refine wpList_call rfl (by simp [go_sem]) ((ki.out).mono ?_)
  rintro e w9 ⟨r, rfl, hr, hX9⟩
  refine ⟨_, rfl, ?_⟩
  simp only [zp0, zp1, zp2, zp3]
  replace hr := hideit hr
  clear ki
  replace hX9 := hideit hX9
  refine wpList_run rfl (.bool (decide (0 ≤ r))) (by simp [go_sem]) ?_
  simp only [zp0, zp1, zp2, zp3]
  refine wpList_run rfl (.bool (decide (0 ≤ r))) (by simp [go_sem]) ?_
  simp only [zp0, zp1, zp2, zp3]
  go_wp2
  go_ret
  exact ⟨by rw [hr.out]; rfl, hX9.out⟩
set_option maxRecDepth 20000 in
set_option maxHeartbeats 4000000 in
theorem isJ_any (u : Value) (l : Nat) (f : Nat → BitVec 8) (w : World) (hu : PV u l f w) (hl : l ≤ 140737488355328) : Calls Tryd.prog 64 #[u] w fun e w' => e = .returned (.bool (like l f)) ∧ Ext w w' := by
  obtain ⟨ou, cu, rfl⟩ := hu.form
  have hX1 : Ext w (w.alloc (.cells #[.slice ou l cu] 39)) := (Below.refl _ _).alloc (Nat.le_refl _) _
  have hc1 : (w.alloc (.cells #[.slice ou l cu] 39)).cell? ⟨w.heap.size, 0, none⟩ = some (.slice ou l cu) := by rw [World.cell?_alloc_new]; rfl
  replace hu := hideit (hu.ext hX1)
  go_enter Tryd.func64, Tryd.ntmps64
  go_upto_region 0 with (fail)
  refine wp_region_lit ?_
  refine wpList_to rfl (.pointer (some ⟨w.heap.size, 0, none⟩)) (w.alloc (.cells #[.slice ou l cu] 39)) (by simp [go_sem]) ?_
  simp only [zp0, zp1, zp2, zp3]
  refine wpList_run rfl (.bool false) (by simp [go_sem]) ?_
  simp only [zp0, zp1, zp2, zp3]
  generalize w.alloc (.cells #[.slice ou l cu] 39) = w1 at *
  generalize hcc : w.heap.size = c at hc1 ⊢
  clear hcc
  have hX2 : Ext w1 (w1.alloc (.cells #[.string (nmS 0), .string (nmS 1), .string (nmS 2)] 9)) := (Below.refl _ _).alloc (Nat.le_refl _) _
  have hb2 : RowAt w1.heap.size 3 (fun i => .string (nmS i)) (w1.alloc (.cells #[.string (nmS 0), .string (nmS 1), .string (nmS 2)] 9)) := RowAt.newOf w1 3 _ 9 _ fun j hj => by rcases (by omega : j = 0 ∨ j = 1 ∨ j = 2) with rfl | rfl | rfl <;> rfl
  have kc := hideit (contains_names w1.heap.size c _ l f _ hb2 (cell_ext' hX2 hc1) (hu.out.ext hX2) hl)
  have hE2 := hideit (Ext.trans hX1 hX2)
  go_upto_region 1 with (fail)
  refine wp_region_lit ?_
  refine wpList_to rfl (.slice (some ⟨w1.heap.size, 0, none⟩) 3 3) (w1.alloc (.cells #[.string (nmS 0), .string (nmS 1), .string (nmS 2)] 9)) (by simp [go_sem]; rfl) ?_
  simp only [zp0, zp1, zp2, zp3]
  refine wpList_run rfl (.slice (some ⟨w1.heap.size, 0, none⟩) 3 3) (by simp [go_sem]) ?_
  simp only [zp0, zp1, zp2, zp3]
  generalize w1.alloc (.cells #[.string (nmS 0), .string (nmS 1), .string (nmS 2)] 9) = w2 at *
  generalize w1.heap.size = b at *
  clear hb2 hX2 hX1 hc1 hu
  go_upto_region 2 with (fail)
  refine wp_region_lit ?_
  refine wpList_run rfl (.slice (some ⟨b, 0, none⟩) 3 3) (by simp [go_sem]) ?_
  simp only [zp0, zp1, zp2, zp3]
  refine wpList_run rfl (.func (.func 86) #[] #[.pointer (some ⟨c, 0, none⟩)]) (by simp [go_sem]) ?_
  simp only [zp0, zp1, zp2, zp3]
  refine wpList_call rfl (by simp [go_sem]) ((kc.out).mono ?_)
  rintro e w3 ⟨rfl, hX3⟩
  refine ⟨_, rfl, ?_⟩
  simp only [zp0, zp1, zp2, zp3]
  refine wpList_run rfl (.bool (like l f)) (by simp [go_sem]) ?_
  simp only [zp0, zp1, zp2, zp3]
  have hE3 := hideit (Ext.trans hE2.out hX3)
  clear kc hX3 hE2
  go_wp2
  go_ret
  exact ⟨rfl, hE3.out⟩
end Go.Proofs.YtiakkclabgelfaaDoor
namespace Go.Proofs.YtiakkclabgelfaaDoor
set_option maxRecDepth 20000
open Go.RowKit Go.BigFrame
theorem one_shl (k : Nat) : IntKind.u64.wrap (2 ^ min k 64) = ((1#64 <<< k).toNat : Int) := by
  rw [BitVec.toNat_shiftLeft, Nat.shiftLeft_eq, IntKind.wrap_u64]
  by_cases h : k < 64
  · rw [Nat.min_eq_left (by omega)]
    have h2 : (2 : Nat) ^ k < 2 ^ 64 := Nat.pow_lt_pow_right (by decide) h
    have h3 : ((2 : Int) ^ k) = ((2 ^ k : Nat) : Int) := by simp
    rw [h3]
    simp only [BitVec.toNat_ofNat]
    omega
  · rw [Nat.min_eq_right (by omega)]
    have h2 : 2 ^ 64 ∣ 2 ^ k := Nat.pow_dvd_pow 2 (by omega)
    obtain ⟨c, hc⟩ := h2
    rw [hc]
    simp only [BitVec.toNat_ofNat]
    have : (1 % 2 ^ 64 * (2 ^ 64 * c)) % 2 ^ 64 = 0 := by
      rw [show 1 % 2 ^ 64 * (2 ^ 64 * c) = 2 ^ 64 * c by simp]
      exact Nat.mul_mod_right _ _
    rw [this]
    rfl
theorem shr_nat (t : BitVec 64) (k : Nat) : (t.toNat : Int) / 2 ^ min k 64 = ((t >>> k).toNat : Int) := by
  rw [BitVec.toNat_ushiftRight, Nat.shiftRight_eq_div_pow]
  by_cases h : k < 64
  · rw [Nat.min_eq_left (by omega)]
    simp
  · rw [Nat.min_eq_right (by omega)]
    have h1 := t.isLt
    have h2 : (2 : Nat) ^ 64 ≤ 2 ^ k := Nat.pow_le_pow_right (by decide) (by omega)
    rw [Nat.div_eq_of_lt (by omega)]
    omega
theorem or_nat (a b : BitVec 64) : bits .or .u64 (a.toNat : Int) (b.toNat : Int) = ((a ||| b).toNat : Int) := by
  rw [u64_or_nat _ _ a.isLt b.isLt, BitVec.toNat_or]
def tmK (ls : Nat → Nat) (fs : Nat → Nat → BitVec 8) : Nat → BitVec 64
  | 0 => 0#64
  | k + 1 => if like (ls k) (fs k) = true then tmK ls fs k ||| (1#64 <<< k) else tmK ls fs k
def rdC (bs : Nat → Int) (us : Nat → Value) (j : Nat) : Value := if j % 2 = 0 then .int .i64 (bs (j / 2)) else us (j / 2)
def RLs (v : Value) (n : Nat) (bs : Nat → Int) (us : Nat → Value) (ls : Nat → Nat) (fs : Nat → Nat → BitVec 8) (w : World) : Prop :=
  ((v = .slice none 0 0 ∧ n = 0) ∨ ∃ a cap, v = .slice (some a) n cap ∧ n ≤ cap ∧ ∀ j, j < n * 2 → w.cell? (a.add j) = some (rdC bs us j)) ∧ ∀ i, i < n → PV (us i) (ls i) (fs i) w ∧ ls i ≤ 140737488355328
theorem RLs.ext {v : Value} {n : Nat} {bs : Nat → Int} {us : Nat → Value} {ls : Nat → Nat} {fs : Nat → Nat → BitVec 8} {w X : World} (h : RLs v n bs us ls fs w) (k : Ext w X) : RLs v n bs us ls fs X := by
  refine ⟨?_, fun i hi => ⟨(h.2 i hi).1.ext k, (h.2 i hi).2⟩⟩
  rcases h.1 with h1 | ⟨a, cap, h1, h2, h3⟩
  · exact .inl h1
  · exact .inr ⟨a, cap, h1, h2, fun j hj => cell_ext' k (h3 j hj)⟩
theorem RLs.form {v : Value} {n : Nat} {bs : Nat → Int} {us : Nat → Value} {ls : Nat → Nat} {fs : Nat → Nat → BitVec 8} {w : World} (h : RLs v n bs us ls fs w) : ∃ o cap, v = .slice o n cap := by
  rcases h.1 with ⟨h1, h2⟩ | ⟨a, cap, h1, _⟩
  · exact ⟨none, 0, by rw [h1, h2]⟩
  · exact ⟨_, cap, h1⟩
theorem RLs.at {o : Option Addr} {n cap : Nat} {bs : Nat → Int} {us : Nat → Value} {ls : Nat → Nat} {fs : Nat → Nat → BitVec 8} {w : World} (h : RLs (.slice o n cap) n bs us ls fs w) (k : Nat) (hk : k < n) : ∃ a, o = some a ∧ LieAt (a.add (k * 2)) 2 (rdC (fun _ => bs k) (fun _ => us k)) w := by
  rcases h.1 with ⟨_, h2⟩ | ⟨a, cap', h1, _, h3⟩
  · omega
  · injection h1 with e1 _ _
    refine ⟨a, e1, fun j hj => ?_, ?_⟩
    · rw [add_add, h3 (k * 2 + j) (by omega)]
      unfold rdC
      rw [show (k * 2 + j) % 2 = j % 2 by omega, show (k * 2 + j) / 2 = k by omega]
    · have := World.block_lt_of_cell? w (a.add (k * 2)) (h3 (k * 2) (by omega))
      exact this
def plV (x t : BitVec 64) (v : Value) (j : Nat) : Value := if j = 0 then .int .u64 (x.toNat : Int) else if j = 1 then .int .u64 (t.toNat : Int) else v
def plA (x t : BitVec 64) (v : Value) : Value := .agg #[.int .u64 (x.toNat : Int), .int .u64 (t.toNat : Int), v]
theorem plA_row (x t : BitVec 64) (v : Value) : plA x t v = .agg (row 3 (plV x t v)).toArray := rfl
end Go.Proofs.YtiakkclabgelfaaDoor
