/-
  What the small functions of a disk answer: Len, has, check, checkBytes, Off, spend, last; also of a nil disk.
-/
import Derived.Test.YtfaeieaelfjlpaaDk
namespace Go.Proofs.Ytfaeieaelfjlpaa
open Go.RowKit Go.BigFrame Go.Maps
theorem DkM.c0 {F : Nat → Prop} {p : Nat} {s : DSt} {C : Nat} {M : DM} {W : World} (h : DkM F p s C M W) : W.cell? ⟨p, 0, none⟩ = some (.slice (some ⟨M.sb, 0, none⟩) s.N M.cp) := h.st.1 0 (by decide)
theorem DkM.c1 {F : Nat → Prop} {p : Nat} {s : DSt} {C : Nat} {M : DM} {W : World} (h : DkM F p s C M W) : W.cell? ⟨p, 1, none⟩ = some (.map (some M.mb)) := h.st.1 1 (by decide)
theorem DkM.c2 {F : Nat → Prop} {p : Nat} {s : DSt} {C : Nat} {M : DM} {W : World} (h : DkM F p s C M W) : W.cell? ⟨p, 2, none⟩ = some (.int .i64 s.pw) := h.st.1 2 (by decide)
theorem DkM.z2 {F : Nat → Prop} {p : Nat} {s : DSt} {C : Nat} {M : DM} {W : World} (h : DkM F p s C M W) : W.frozen? ⟨p, 2, none⟩ = false := h.st.2.1 2 (by decide)
section
variable {F : Nat → Prop} {p : Nat} {s : DSt} {C : Nat} {M : DM} {W : World}
theorem dlen (h : DkM F p s C M W) : Calls Try.prog 23 #[.pointer (some ⟨p, 0, none⟩)] W fun e w' => e = .returned (.int .i64 (s.N : Int)) ∧ w' = W := by
  have e0 := h.c0
  have hn := h.n4
  clear h
  go_enter Try.func23, Try.ntmps23
  go_wp2
  go_ret
  exact ⟨rfl, rfl⟩
theorem doff (h : DkM F p s C M W) : Calls Try.prog 22 #[.pointer (some ⟨p, 0, none⟩)] W fun e w' => e = .returned (.bool (decide (s.pw = 0))) ∧ w' = W := by
  have e2 := h.c2
  clear h
  by_cases hp : s.pw = 0
  · rw [decide_eq_true hp]
    go_enter Try.func22, Try.ntmps22
    go_wp2
    go_ret
    exact ⟨by simp, rfl⟩
  · rw [decide_eq_false hp]
    go_enter Try.func22, Try.ntmps22
    go_wp2
    go_ret
    exact ⟨by simp [hp], rfl⟩
def inN (N : Nat) (x : Int) : Bool := decide (0 ≤ x ∧ x < (N : Int))
theorem dhas (h : DkM F p s C M W) (x : Int) : Calls Try.prog 38 #[.pointer (some ⟨p, 0, none⟩), .int .i64 x] W fun e w' => e = .returned (.bool (inN s.N x)) ∧ w' = W := by
  have kl := hideit (dlen h)
  obtain ⟨r, hr⟩ : ∃ r, r = inN s.N x := ⟨_, rfl⟩
  rw [← hr]
  clear h
  by_cases h0 : 0 ≤ x
  · by_cases h1 : x < (s.N : Int)
    · obtain rfl : r = true := by rw [hr]; exact decide_eq_true ⟨h0, h1⟩
      clear hr
      go_enter Try.func38, Try.ntmps38
      go_wp2_with (go_at_call 23; refine kl.out.mono ?_; rintro e w9 ⟨rfl, hw9⟩; rw [hw9]; clear hw9)
      go_ret
      exact ⟨rfl, rfl⟩
    · obtain rfl : r = false := by rw [hr]; exact decide_eq_false fun hh => h1 hh.2
      clear hr
      go_enter Try.func38, Try.ntmps38
      go_wp2_with (go_at_call 23; refine kl.out.mono ?_; rintro e w9 ⟨rfl, hw9⟩; rw [hw9]; clear hw9)
      go_ret
      exact ⟨by rw [← decide_eq_false (show ¬ x < (s.N : Int) by omega)]; rfl, rfl⟩
  · obtain rfl : r = false := by rw [hr]; exact decide_eq_false fun hh => h0 hh.1
    clear hr
    go_enter Try.func38, Try.ntmps38
    go_wp2_with (go_at_call 23; refine kl.out.mono ?_; rintro e w9 ⟨rfl, hw9⟩; rw [hw9]; clear hw9)
    go_ret
    exact ⟨rfl, rfl⟩
def ckE (N : Nat) (x : Int) : Int := if inN N x then 0 else 100
theorem dcheck (h : DkM F p s C M W) (x : Int) : Calls Try.prog 43 #[.pointer (some ⟨p, 0, none⟩), .int .i64 x] W fun e w' => e = .returned (.int .i64 (ckE s.N x)) ∧ w' = W := by
  have kl := hideit (dhas h x)
  clear h
  unfold ckE
  cases hb : inN s.N x
  · rw [hb] at kl
    clear hb
    go_enter Try.func43, Try.ntmps43
    go_wp2_with (go_at_call 38; refine kl.out.mono ?_; rintro e w9 ⟨rfl, hw9⟩; rw [hw9]; clear hw9)
    go_ret
    exact ⟨rfl, rfl⟩
  · rw [hb] at kl
    clear hb
    go_enter Try.func43, Try.ntmps43
    go_wp2_with (go_at_call 38; refine kl.out.mono ?_; rintro e w9 ⟨rfl, hw9⟩; rw [hw9]; clear hw9)
    go_ret
    exact ⟨rfl, rfl⟩
def cbE (N : Nat) (x : Int) (l : Nat) : Int := if inN N x then (if l = 512 then 0 else 101) else 100
theorem dcheckB (h : DkM F p s C M W) (x : Int) (o : Option Addr) (l cap : Nat) : Calls Try.prog 26 #[.pointer (some ⟨p, 0, none⟩), .int .i64 x, .slice o l cap] W fun e w' => e = .returned (.int .i64 (cbE s.N x l)) ∧ w' = W := by
  have kl := dcheck h x
  clear h
  unfold cbE
  unfold ckE at kl
  cases hb : inN s.N x
  · rw [hb] at kl
    replace kl := hideit kl
    clear hb
    go_enter Try.func26, Try.ntmps26
    go_wp2_with (go_at_call 43; refine kl.out.mono ?_; rintro e w9 ⟨rfl, hw9⟩; rw [hw9]; clear hw9; simp only [Bool.false_eq_true, if_false])
    go_ret
    exact ⟨rfl, rfl⟩
  · rw [hb] at kl
    replace kl := hideit kl
    clear hb
    by_cases h5 : l = 512
    · subst h5
      go_enter Try.func26, Try.ntmps26
      go_wp2_with (go_at_call 43; refine kl.out.mono ?_; rintro e w9 ⟨rfl, hw9⟩; rw [hw9]; clear hw9; simp only [if_true])
      go_ret
      exact ⟨rfl, rfl⟩
    · have h5' : ¬ (l : Int) = 512 := by omega
      rw [if_pos rfl, if_neg h5]
      go_enter Try.func26, Try.ntmps26
      go_wp2_with (go_at_call 43; refine kl.out.mono ?_; rintro e w9 ⟨rfl, hw9⟩; rw [hw9]; clear hw9; simp only [if_true])
      go_ret
      exact ⟨rfl, rfl⟩
/-- the last one of some writes -/
theorem dlast (k cap : Nat) (b : Nat) (us : Nat → Value) (w : World) (hk : 0 < k) (hk9 : k ≤ 140737488355328) (hR : RowAt b k us w) (o : Option Addr) (l c : Nat) (hu : us (k - 1) = .slice o l c) :
    Calls Try.prog 29 #[.slice (some ⟨b, 0, none⟩) k cap] w fun e w' => e = .returned (.slice o l c) ∧ w' = w := by
  obtain ⟨q, rfl⟩ : ∃ q, k = q + 1 := ⟨k - 1, by omega⟩
  have e1 := hR.1 q (by omega)
  rw [show q + 1 - 1 = q by omega] at hu
  rw [hu] at e1
  have i1 : (q : Int) < ((q + 1 : Nat) : Int) := by omega
  have i3 : IntKind.i64.wrap (((q + 1 : Nat) : Int) - 1) = (q : Int) := by rw [IntKind.wrap_i64]; omega
  obtain ⟨k, hkk⟩ : ∃ k, k = q + 1 := ⟨_, rfl⟩
  rw [← hkk] at i1 i3 ⊢
  clear hkk
  clear hR hu
  go_enter Try.func29, Try.ntmps29
  go_upto_region 1 with (fail)
  refine wp_region_lit ?_
  refine wpList_run rfl (.slice (some ⟨b, 0, none⟩) k cap) (by simp [go_sem]) ?_
  simp only [Act.put, List.setIfInBounds_toArray, List.set_cons_zero, List.set_cons_succ]
  refine wpList_run rfl (.slice (some ⟨b, 0, none⟩) k cap) (by simp [go_sem]) ?_
  simp only [Act.put, List.setIfInBounds_toArray, List.set_cons_zero, List.set_cons_succ]
  refine wpList_run rfl (.int .i64 (k : Int)) (by simp [go_sem]) ?_
  simp only [Act.put, List.setIfInBounds_toArray, List.set_cons_zero, List.set_cons_succ]
  refine wpList_run rfl (.int .i64 (q : Int)) (by simp [go_sem, i3]) ?_
  simp only [Act.put, List.setIfInBounds_toArray, List.set_cons_zero, List.set_cons_succ]
  refine wpList_run rfl (.pointer (some ⟨b, q, none⟩)) (by simp [go_sem, i1]) ?_
  simp only [Act.put, List.setIfInBounds_toArray, List.set_cons_zero, List.set_cons_succ]
  refine wpList_run rfl (.slice o l c) (by simp [go_sem, e1]) ?_
  simp only [Act.put, List.setIfInBounds_toArray, List.set_cons_zero, List.set_cons_succ]
  refine wpList_run rfl (.slice o l c) (by simp [go_sem]) ?_
  simp only [Act.put, List.setIfInBounds_toArray, List.set_cons_zero, List.set_cons_succ]
  go_wp2
  go_ret
  exact ⟨rfl, rfl⟩
theorem nil_len (w : World) : Calls Try.prog 23 #[.pointer none] w fun e w' => e = .returned (.int .i64 0) ∧ w' = w := by
  go_enter Try.func23, Try.ntmps23
  go_wp2
  go_ret
  exact ⟨rfl, rfl⟩
theorem nil_off (w : World) : Calls Try.prog 22 #[.pointer none] w fun e w' => e = .returned (.bool false) ∧ w' = w := by
  go_enter Try.func22, Try.ntmps22
  go_wp2
  go_ret
  exact ⟨rfl, rfl⟩
theorem nil_check (x : Int) (w : World) : Calls Try.prog 43 #[.pointer none, .int .i64 x] w fun e w' => e = .returned (.int .i64 6) ∧ w' = w := by
  go_enter Try.func43, Try.ntmps43
  go_wp2
  go_ret
  exact ⟨rfl, rfl⟩
end
end Go.Proofs.Ytfaeieaelfjlpaa
