/-
  What the small functions of a disk answer: Len, has, check, checkBytes, Off, spend, last; also of a nil disk. A disk's spend, Stop, Read and Sure.
-/
import Derived.Test.YtiakkclabgelfaaDoorQc1
import Derived.Test.YtiakkclabgelfaaDoorQc26
namespace Go.Proofs.YtiakkclabgelfaaDoor
set_option maxRecDepth 20000
open Go.RowKit Go.BigFrame Go.Maps
theorem DkM.c0 {F : Nat → Prop} {p : Nat} {s : DSt} {C : Nat} {M : DM} {W : World} (h : DkM F p s C M W) : W.cell? ⟨p, 0, none⟩ = some (.slice (some ⟨M.sb, 0, none⟩) s.N M.cp) := h.st.1 0 (by decide)
theorem DkM.c1 {F : Nat → Prop} {p : Nat} {s : DSt} {C : Nat} {M : DM} {W : World} (h : DkM F p s C M W) : W.cell? ⟨p, 1, none⟩ = some (.map (some M.mb)) := h.st.1 1 (by decide)
theorem DkM.c2 {F : Nat → Prop} {p : Nat} {s : DSt} {C : Nat} {M : DM} {W : World} (h : DkM F p s C M W) : W.cell? ⟨p, 2, none⟩ = some (.int .i64 s.pw) := h.st.1 2 (by decide)
theorem DkM.z2 {F : Nat → Prop} {p : Nat} {s : DSt} {C : Nat} {M : DM} {W : World} (h : DkM F p s C M W) : W.frozen? ⟨p, 2, none⟩ = false := h.st.2.1 2 (by decide)
section
variable {F : Nat → Prop} {p : Nat} {s : DSt} {C : Nat} {M : DM} {W : World}
theorem dlen (h : DkM F p s C M W) : Calls Tryd.prog 48 #[.pointer (some ⟨p, 0, none⟩)] W fun e w' => e = .returned (.int .i64 (s.N : Int)) ∧ w' = W := by
  have e0 := h.c0
  have hn := h.n4
  clear h
  go_enter Tryd.func48, Tryd.ntmps48
  go_wp2
  go_ret
  exact ⟨rfl, rfl⟩
theorem doff (h : DkM F p s C M W) : Calls Tryd.prog 37 #[.pointer (some ⟨p, 0, none⟩)] W fun e w' => e = .returned (.bool (decide (s.pw = 0))) ∧ w' = W := by
  have e2 := h.c2
  clear h
  by_cases hp : s.pw = 0
  · rw [decide_eq_true hp]
    go_enter Tryd.func37, Tryd.ntmps37
    go_wp2
    go_ret
    exact ⟨by simp, rfl⟩
  · rw [decide_eq_false hp]
    go_enter Tryd.func37, Tryd.ntmps37
    go_wp2
    go_ret
    exact ⟨by simp [hp], rfl⟩
def inN (N : Nat) (x : Int) : Bool := decide (0 ≤ x ∧ x < (N : Int))
theorem dhas (h : DkM F p s C M W) (x : Int) : Calls Tryd.prog 63 #[.pointer (some ⟨p, 0, none⟩), .int .i64 x] W fun e w' => e = .returned (.bool (inN s.N x)) ∧ w' = W := by
  have kl := hideit (dlen h)
  obtain ⟨r, hr⟩ : ∃ r, r = inN s.N x := ⟨_, rfl⟩
  rw [← hr]
  clear h
  by_cases h0 : 0 ≤ x
  · by_cases h1 : x < (s.N : Int)
    · obtain rfl : r = true := by rw [hr]; exact decide_eq_true ⟨h0, h1⟩
      clear hr
      go_enter Tryd.func63, Tryd.ntmps63
      go_wp2_with (go_at_call 48; refine kl.out.mono ?_; rintro e w9 ⟨rfl, hw9⟩; rw [hw9]; clear hw9)
      go_ret
      exact ⟨rfl, rfl⟩
    · obtain rfl : r = false := by rw [hr]; exact decide_eq_false fun hh => h1 hh.2
      clear hr
      go_enter Tryd.func63, Tryd.ntmps63
      go_wp2_with (go_at_call 48; refine kl.out.mono ?_; rintro e w9 ⟨rfl, hw9⟩; rw [hw9]; clear hw9)
      go_ret
      exact ⟨by rw [← decide_eq_false (show ¬ x < (s.N : Int) by omega)]; rfl, rfl⟩
  · obtain rfl : r = false := by rw [hr]; exact decide_eq_false fun hh => h0 hh.1
    clear hr
    go_enter Tryd.func63, Tryd.ntmps63
    go_wp2_with (go_at_call 48; refine kl.out.mono ?_; rintro e w9 ⟨rfl, hw9⟩; rw [hw9]; clear hw9)
    go_ret
    exact ⟨rfl, rfl⟩
def ckE (N : Nat) (x : Int) : Int := if inN N x then 0 else 100
theorem dcheck (h : DkM F p s C M W) (x : Int) : Calls Tryd.prog 56 #[.pointer (some ⟨p, 0, none⟩), .int .i64 x] W fun e w' => e = .returned (.int .i64 (ckE s.N x)) ∧ w' = W := by
  have kl := hideit (dhas h x)
  clear h
  unfold ckE
  cases hb : inN s.N x
  · rw [hb] at kl
    clear hb
    go_enter Tryd.func56, Tryd.ntmps56
    go_wp2_with (go_at_call 63; refine kl.out.mono ?_; rintro e w9 ⟨rfl, hw9⟩; rw [hw9]; clear hw9)
    go_ret
    exact ⟨rfl, rfl⟩
  · rw [hb] at kl
    clear hb
    go_enter Tryd.func56, Tryd.ntmps56
    go_wp2_with (go_at_call 63; refine kl.out.mono ?_; rintro e w9 ⟨rfl, hw9⟩; rw [hw9]; clear hw9)
    go_ret
    exact ⟨rfl, rfl⟩
def cbE (N : Nat) (x : Int) (l : Nat) : Int := if inN N x then (if l = 512 then 0 else 101) else 100
theorem dcheckB (h : DkM F p s C M W) (x : Int) (o : Option Addr) (l cap : Nat) : Calls Tryd.prog 71 #[.pointer (some ⟨p, 0, none⟩), .int .i64 x, .slice o l cap] W fun e w' => e = .returned (.int .i64 (cbE s.N x l)) ∧ w' = W := by
  have kl := dcheck h x
  clear h
  unfold cbE
  unfold ckE at kl
  cases hb : inN s.N x
  · rw [hb] at kl
    replace kl := hideit kl
    clear hb
    go_enter Tryd.func71, Tryd.ntmps71
    go_wp2_with (go_at_call 56; refine kl.out.mono ?_; rintro e w9 ⟨rfl, hw9⟩; rw [hw9]; clear hw9; simp only [Bool.false_eq_true, if_false])
    go_ret
    exact ⟨rfl, rfl⟩
  · rw [hb] at kl
    replace kl := hideit kl
    clear hb
    by_cases h5 : l = 512
    · subst h5
      go_enter Tryd.func71, Tryd.ntmps71
      go_wp2_with (go_at_call 56; refine kl.out.mono ?_; rintro e w9 ⟨rfl, hw9⟩; rw [hw9]; clear hw9; simp only [if_true])
      go_ret
      exact ⟨rfl, rfl⟩
    · have h5' : ¬ (l : Int) = 512 := by omega
      rw [if_pos rfl, if_neg h5]
      go_enter Tryd.func71, Tryd.ntmps71
      go_wp2_with (go_at_call 56; refine kl.out.mono ?_; rintro e w9 ⟨rfl, hw9⟩; rw [hw9]; clear hw9; simp only [if_true])
      go_ret
      exact ⟨rfl, rfl⟩
theorem dlast (k cap : Nat) (b : Nat) (us : Nat → Value) (w : World) (hk : 0 < k) (hk9 : k ≤ 140737488355328) (hR : RowAt b k us w) (o : Option Addr) (l c : Nat) (hu : us (k - 1) = .slice o l c) :
    Calls Tryd.prog 38 #[.slice (some ⟨b, 0, none⟩) k cap] w fun e w' => e = .returned (.slice o l c) ∧ w' = w := by
  obtain ⟨q, rfl⟩ : ∃ q, k = q + 1 := ⟨k - 1, by omega⟩
  have e1 := hR.1 q (by omega)
  rw [show q + 1 - 1 = q by omega] at hu
  rw [hu] at e1
  have i1 : (q : Int) < ((q + 1 : Nat) : Int) := by omega
  have i3 : IntKind.i64.wrap (((q + 1 : Nat) : Int) - 1) = (q : Int) := by rw [IntKind.wrap_i64]; omega
  obtain ⟨k, hkk⟩ : ∃ k, k = q + 1 := ⟨_, rfl⟩
  rw [← hkk] at i1 i3 ⊢
  clear hkk
  clear hR hu
  go_enter Tryd.func38, Tryd.ntmps38
  go_upto_region 1 with (fail)
  refine wp_region_lit ?_
  refine wpList_run rfl (.slice (some ⟨b, 0, none⟩) k cap) (by simp [go_sem]) ?_
  simp only [zp0, zp1, zp2, zp3]
  refine wpList_run rfl (.slice (some ⟨b, 0, none⟩) k cap) (by simp [go_sem]) ?_
  simp only [zp0, zp1, zp2, zp3]
  refine wpList_run rfl (.int .i64 (k : Int)) (by simp [go_sem]) ?_
  simp only [zp0, zp1, zp2, zp3]
  refine wpList_run rfl (.int .i64 (q : Int)) (by simp [go_sem, i3]) ?_
  simp only [zp0, zp1, zp2, zp3]
  refine wpList_run rfl (.pointer (some ⟨b, q, none⟩)) (by simp [go_sem, i1]) ?_
  simp only [zp0, zp1, zp2, zp3]
  refine wpList_run rfl (.slice o l c) (by simp [go_sem, e1]) ?_
  simp only [zp0, zp1, zp2, zp3]
  refine wpList_run rfl (.slice o l c) (by simp [go_sem]) ?_
  simp only [zp0, zp1, zp2, zp3]
  go_wp2
  go_ret
  exact ⟨rfl, rfl⟩
end
end Go.Proofs.YtiakkclabgelfaaDoor
namespace Go.Proofs.YtiakkclabgelfaaDoor
set_option maxRecDepth 20000
open Go.RowKit Go.BigFrame Go.Maps
section
variable {F : Nat → Prop} {p : Nat} {s : DSt} {C : Nat} {M : DM} {W : World}
theorem DkM.setP (h : DkM F p s C M W) (pw : Int) (hpk : -9223372036854775808 ≤ pw ∧ pw ≤ 9223372036854775807) : DkM F p { s with pw := pw } C M (W.setCell ⟨p, 2, none⟩ (.int .i64 pw)) ∧ Keeps F W (W.setCell ⟨p, 2, none⟩ (.int .i64 pw)) := by
  have k := but_setCell W p 2 (.int .i64 pw)
  refine ⟨h.turnP k pw ((h.st.set 2 (.int .i64 pw)).congr fun j hj => ?_) hpk fun hb => h.nb p h.fp hb.unset, but_keeps k h.fp⟩
  rcases (by omega : j = 0 ∨ j = 1 ∨ j = 2) with rfl | rfl | rfl <;> rfl
def spE (pw : Int) : Int := if 0 < pw then pw - 1 else pw
theorem dspend (h : DkM F p s C M W) : Calls Tryd.prog 39 #[.pointer (some ⟨p, 0, none⟩)] W fun e w' => e = .returned (.tuple #[]) ∧ DkM F p { s with pw := spE s.pw } C M w' ∧ Keeps F W w' := by
  have e2 := h.c2
  have z2 := h.z2
  have hp := h.pk
  by_cases hpos : 0 < s.pw
  · have hs := hideit (h.setP (s.pw - 1) (by omega))
    have hw : IntKind.i64.wrap (s.pw - 1) = s.pw - 1 := by rw [IntKind.wrap_i64]; omega
    rw [show spE s.pw = s.pw - 1 from if_pos hpos]
    clear h
    obtain ⟨q, hq⟩ : ∃ q, q = s.pw - 1 := ⟨_, rfl⟩
    rw [← hq] at hs hw
    rw [← hq]
    replace hq := hideit hq
    go_enter Tryd.func39, Tryd.ntmps39
    go_upto_region 1 with (fail)
    refine wp_region_lit ?_
    refine wpList_run rfl (.pointer (some ⟨p, 0, none⟩)) (by simp [go_sem]) ?_
    simp only [zp0, zp1, zp2, zp3]
    refine wpList_run rfl (.pointer (some ⟨p, 0, none⟩)) (by simp [go_sem]) ?_
    simp only [zp0, zp1, zp2, zp3]
    refine wpList_run rfl (.pointer (some ⟨p, 2, none⟩)) (by simp [go_sem]) ?_
    simp only [zp0, zp1, zp2, zp3]
    refine wpList_run rfl (.int .i64 s.pw) (by simp [go_sem, e2]) ?_
    simp only [zp0, zp1, zp2, zp3]
    refine wpList_run rfl (.int .i64 q) (by simp [go_sem, ← hq.out, hw]) ?_
    simp only [zp0, zp1, zp2, zp3]
    refine wpList_run rfl (.pointer (some ⟨p, 0, none⟩)) (by simp [go_sem]) ?_
    simp only [zp0, zp1, zp2, zp3]
    refine wpList_run rfl (.pointer (some ⟨p, 2, none⟩)) (by simp [go_sem]) ?_
    simp only [zp0, zp1, zp2, zp3]
    go_wp2
    exact bodyPost_end (v := .tuple #[]) (by simp [results, Tryd.results39]) rfl ⟨rfl, hs.out.1, hs.out.2⟩
  · rw [show spE s.pw = s.pw from if_neg hpos]
    replace h := hideit h
    go_enter Tryd.func39, Tryd.ntmps39
    go_wp2
    exact bodyPost_end (v := .tuple #[]) (by simp [results, Tryd.results39]) rfl ⟨rfl, h.out, Keeps.refl _ _⟩
theorem inN_true {N n : Nat} (h : n < N) : inN N (n : Int) = true := decide_eq_true ⟨by omega, by omega⟩
theorem inN_spec {N : Nat} {x : Int} (h : inN N x = true) : ∃ n : Nat, x = (n : Int) ∧ n < N := by
  have := of_decide_eq_true h
  exact ⟨x.toNat, by omega, by omega⟩
def hasF (s : DSt) (n : Nat) : Nat → BitVec 8 := if s.kc n = 0 then s.S n else s.uc n (s.kc n - 1)
theorem zero54 (w : World) : (zeroValue 49).run Tryd.prog w = .ok (.slice none 0 0) w := by kernel_rfl
set_option maxRecDepth 20000 in
set_option maxHeartbeats 2000000 in
theorem dread (h : DkM F p s C M W) (n : Nat) (hn : n < s.N) (hp : s.pw ≠ 0) (hC : C ≤ 4398046511104) : Calls Tryd.prog 33 #[.pointer (some ⟨p, 0, none⟩), .int .i64 (n : Int)] W fun e w' => ∃ v, e = .returned (.tuple #[v, .int .i64 0]) ∧ OwnB W.heap.size 5 v 512 (yv (hasF s n)) w' ∧ Ext W w' := by
  have kc := dcheck h n
  rw [show ckE s.N n = 0 by unfold ckE; rw [inN_true hn]; rfl] at kc
  have ko := doff h
  rw [decide_eq_false hp] at ko
  have hn4 := h.n4
  have hl := h.mp.look (t := 62) Tryd.underlying3 Tryd.underlying62 (zero54 W) (h.ok n hn)
  have e0 := h.c0
  have e1 := h.c1
  replace kc := hideit kc
  replace ko := hideit ko
  rcases h.list n hn with ⟨hm, hk⟩ | ⟨v, hm, hk, hO⟩
  · rw [hm, Option.getD_none] at hl
    have es := h.sure.1 n hn
    obtain ⟨b, cap, hv, hcap, hlie, _⟩ := h.cont n hn
    rw [hv] at es
    have kcl := hideit (clone_any (.slice (some ⟨b, 0, none⟩) 512 cap) 512 (s.S n) W (.inr ⟨_, cap, rfl, hcap, hlie⟩) (by decide))
    rw [show hasF s n = s.S n from if_pos hk]
    have i0 : (0 : Int) ≤ (n : Int) := by omega
    have i1 : (n : Int) < (s.N : Int) := by omega
    clear h hm hv hlie hk
    go_enter Tryd.func33, Tryd.ntmps33
    go_upto_region 9 with (first | (go_at_call 56; refine kc.out.mono ?_; rintro e w9 ⟨rfl, hw9⟩; rw [hw9]; clear hw9) | (go_at_call 37; refine ko.out.mono ?_; rintro e w9 ⟨rfl, hw9⟩; rw [hw9]; clear hw9))
    refine wp_region_lit ?_
    refine wpList_run rfl (.pointer (some ⟨p, 0, none⟩)) (by simp [go_sem]) ?_
    simp only [zp0, zp1, zp2, zp3]
    refine wpList_run rfl (.pointer (some ⟨p, 0, none⟩)) (by simp [go_sem]) ?_
    simp only [zp0, zp1, zp2, zp3]
    refine wpList_run rfl (.pointer (some ⟨p, 0, none⟩)) (by simp [go_sem]) ?_
    simp only [zp0, zp1, zp2, zp3]
    refine wpList_run rfl (.slice (some ⟨M.sb, 0, none⟩) s.N M.cp) (by simp [go_sem, e0]) ?_
    simp only [zp0, zp1, zp2, zp3]
    refine wpList_run rfl (.int .i64 (n : Int)) (by simp [go_sem]) ?_
    simp only [zp0, zp1, zp2, zp3]
    refine wpList_run rfl (.pointer (some ⟨M.sb, n, none⟩)) (by simp [go_sem, i1]) ?_
    simp only [zp0, zp1, zp2, zp3]
    refine wpList_run rfl (.slice (some ⟨b, 0, none⟩) 512 cap) (by simp [go_sem, es]) ?_
    simp only [zp0, zp1, zp2, zp3]
    refine wpList_call rfl (by simp [go_sem]) ((kcl.out).mono ?_)
    rintro e w2 ⟨v2, rfl, hO2, hX2⟩
    refine ⟨_, rfl, ?_⟩
    simp only [zp0, zp1, zp2, zp3]
    obtain ⟨o2, c2, rfl⟩ := hO2.bv.form
    replace hO2 := hideit hO2
    replace hX2 := hideit hX2
    go_wp2
    go_ret2
    exact ⟨_, rfl, hO2.out, hX2.out⟩
  · rw [hm, Option.getD_some] at hl
    have hkC := h.kcC n hn
    obtain ⟨rb, rcap, rfl, -, hrc, -, hr⟩ := hO.lies hk
    obtain ⟨b, cap, hv, hcap, hlie, _⟩ := h.writes n (s.kc n - 1) hn (by omega)
    have kla := hideit (dlast (s.kc n) rcap rb (M.us n) W hk (by omega) hr _ _ _ hv)
    have kcl := hideit (clone_any (.slice (some ⟨b, 0, none⟩) 512 cap) 512 (s.uc n (s.kc n - 1)) W (.inr ⟨_, cap, rfl, hcap, hlie⟩) (by decide))
    rw [show hasF s n = s.uc n (s.kc n - 1) from if_neg (by omega)]
    obtain ⟨k, hkk⟩ : ∃ k, k = s.kc n := ⟨_, rfl⟩
    obtain ⟨f, hf⟩ : ∃ f, f = s.uc n (s.kc n - 1) := ⟨_, rfl⟩
    rw [← hf] at kcl ⊢
    rw [← hkk] at hl kla hk
    have k1 : (0 : Int) < (k : Int) := by omega
    clear h hm hv hlie hr hO hf hkk hrc hkC
    go_enter Tryd.func33, Tryd.ntmps33
    go_upto_region 8 with (first | (go_at_call 56; refine kc.out.mono ?_; rintro e w9 ⟨rfl, hw9⟩; rw [hw9]; clear hw9) | (go_at_call 37; refine ko.out.mono ?_; rintro e w9 ⟨rfl, hw9⟩; rw [hw9]; clear hw9))
    refine wp_region_lit ?_
    refine wpList_run rfl (.slice (some ⟨rb, 0, none⟩) k rcap) (by simp [go_sem]) ?_
    simp only [zp0, zp1, zp2, zp3]
    refine wpList_call rfl (by simp [go_sem]) ((kla.out).mono ?_)
    rintro e w1 ⟨rfl, hw1⟩
    refine ⟨_, rfl, ?_⟩
    simp only [zp0, zp1, zp2, zp3]
    rw [hw1]
    clear hw1
    refine wpList_call rfl (by simp [go_sem]) ((kcl.out).mono ?_)
    rintro e w2 ⟨v2, rfl, hO2, hX2⟩
    refine ⟨_, rfl, ?_⟩
    simp only [zp0, zp1, zp2, zp3]
    obtain ⟨o2, c2, rfl⟩ := hO2.bv.form
    replace hO2 := hideit hO2
    replace hX2 := hideit hX2
    go_wp2
    go_ret2
    exact ⟨_, rfl, hO2.out, hX2.out⟩
end
end Go.Proofs.YtiakkclabgelfaaDoor
