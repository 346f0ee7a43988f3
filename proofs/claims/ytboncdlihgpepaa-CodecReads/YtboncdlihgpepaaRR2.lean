/-
  The document's Zeros; what each call makes of a Reader, the program's and the document's, in one form.
-/
import Derived.Test.YtboncdlihgpepaaRR
namespace Go.Proofs.Ytboncdlihgpepaa
open Go.RowKit Go.BigFrame
theorem rd_cells {lo c l : Nat} {f : Nat → BitVec 8} {bad : Bool} {w : World} (h : Rd lo c l f bad w) : ∃ oa cp, RdAt c (.slice oa l cp) bad w ∧ BV (.slice oa l cp) l f w ∧ InB (.slice oa l cp) lo c ∧ l ≤ cp ∧ ∀ j, j < l → ∃ ad, oa = some ad ∧ w.cell? (ad.add j) = some (.int .u8 ((f j).toNat : Int)) := by
  obtain ⟨v, h1, h2, h3⟩ := h
  have h2' := h2
  rcases h2 with ⟨rfl, rfl⟩ | ⟨a, cap, rfl, h4, h5⟩
  · exact ⟨none, 0, h1, h2', h3, Nat.le_refl _, fun j hj => by omega⟩
  · exact ⟨some a, cap, h1, h2', h3, h4, fun j hj => ⟨a, rfl, h5.1 j hj⟩⟩
set_option maxRecDepth 20000 in
set_option maxHeartbeats 2000000 in
theorem rrzeros_ok (lo c l n : Nat) (f : Nat → BitVec 8) (w : World) (h : Rd lo c l f false w) (hn : n ≤ l) (hl : l ≤ 140737488355328) (hz : zB f n = true) :
    Calls Try.prog 17 #[.pointer (some ⟨c, 0, none⟩), .int .i64 n] w fun e w' => e = .returned (.tuple #[]) ∧ Rd lo c (l - n) (shF f n) false w' ∧ But c w w' := by
  obtain ⟨oa, cp, hA, hV, hI, hlc, hcell⟩ := rd_cells h
  have e0 := hA.bytes
  have e1 := hA.bad
  have g0 := hA.2.1 0 (by decide)
  have n0 : (0 : Int) ≤ (n : Int) := by omega
  have n1 : (n : Int) ≤ (l : Int) := by omega
  have n2 : (n : Int) ≤ (cp : Int) := by omega
  have hz' : Hid (∀ k, k < n → f k = 0#8) := (zB_spec n).1 hz
  replace hcell := hideit hcell
  replace hV := hideit hV
  replace hI := hideit hI
  replace hA := hideit hA
  clear h hz
  go_enter Try.func17, Try.ntmps17
  go_wp2
  go_loop [4] (fun i => ∃ k : Nat, k ≤ n ∧ i = .int .i64 k) (fun i => n - (intOf i).toNat)
  case atStart => exact ⟨0, Nat.zero_le _, rfl⟩
  case round =>
    obtain ⟨k, hk, rfl⟩ := hrel
    by_cases hlt : k < n
    · obtain ⟨ad, rfl, hc⟩ := hcell.out k (by omega)
      rw [hz'.out k hlt] at hc
      replace hc : w.cell? (ad.add k) = some (.int .u8 0) := hc
      have k0 : (0 : Int) ≤ (k : Int) := by omega
      have k1 : (k : Int) < (n : Int) := by omega
      have k2 : (k : Int) < (l : Int) := by omega
      go_wp2
      go_round
      case rel => exact ⟨k + 1, by omega, by go_num⟩
      case measure => simp [intOf]; omega
    · obtain rfl : k = n := by omega
      clear hcell
      rcases hV.out with ⟨hv, h0⟩ | ⟨a, cap, hv, h4, h5⟩
      · injection hv with q1 q2 q3
        subst q1
        subst q3
        subst h0
        obtain rfl : k = 0 := by omega
        have hs := hideit (hA.out.setBytes (.slice none 0 0))
        have hb := hideit (but_setCell w c 0 (.slice none 0 0))
        go_wp2
        exact bodyPost_end (v := .tuple #[]) (by simp [results, Try.results17]) rfl ⟨rfl, ⟨_, hs.out, .inl ⟨rfl, rfl⟩, (fun a n cp hh => by cases hh)⟩, hb.out⟩
      · injection hv with q1 q2 q3
        subst q1
        subst q3
        have hi := hI.out _ _ _ rfl
        replace h5 := hideit h5
        by_cases hct : cp = k
        · have hs := hideit (hA.out.setBytes (.slice (some a) (l - k) 0))
          have hb := hideit (but_setCell w c 0 (.slice (some a) (l - k) 0))
          clear hV hA hI
          go_wp2
          exact bodyPost_end (v := .tuple #[]) (by simp [results, Try.results17]) rfl ⟨rfl, ⟨_, hs.out, .inr ⟨a, 0, rfl, by omega, ⟨fun j hj => by omega, (h5.out.but hb.out (Nat.ne_of_lt hi.2)).2⟩⟩, (fun x y z hh => by injection hh with hh; injection hh with hh; rw [← hh]; exact hi)⟩, hb.out⟩
        · have hs := hideit (hA.out.setBytes (.slice (some (a.add k)) (l - k) (cp - k)))
          have hb := hideit (but_setCell w c 0 (.slice (some (a.add k)) (l - k) (cp - k)))
          clear hV hA hI
          go_wp2
          exact bodyPost_end (v := .tuple #[]) (by simp [results, Try.results17]) rfl ⟨rfl, ⟨_, hs.out, .inr ⟨a.add k, cp - k, rfl, by omega, ⟨fun j hj => by rw [add_add]; exact (h5.out.but hb.out (Nat.ne_of_lt hi.2)).1 (k + j) (by omega), by rw [add_block]; exact (h5.out.but hb.out (Nat.ne_of_lt hi.2)).2⟩⟩, (fun x y z hh => by injection hh with hh; injection hh with hh; rw [← hh, add_block]; exact hi)⟩, hb.out⟩
set_option maxRecDepth 20000 in
set_option maxHeartbeats 2000000 in
theorem rrzeros_not (lo c l : Nat) (n : Int) (f : Nat → BitVec 8) (bad : Bool) (w : World) (h : Rd lo c l f bad w) (hl : l ≤ 140737488355328) (hn : (!bad && okN n l && zB f n.toNat) = false) :
    Calls Try.prog 17 #[.pointer (some ⟨c, 0, none⟩), .int .i64 n] w fun e w' => e = .returned (.tuple #[]) ∧ Rd lo c l f true w' ∧ But c w w' := by
  obtain ⟨oa, cp, hA, hV, hI, hlc, hcell⟩ := rd_cells h
  have e0 := hA.bytes
  have e1 := hA.bad
  have g1 := hA.2.1 1 (by decide)
  have hb := hideit (but_setCell w c 1 (.bool true))
  have hs : Hid (Rd lo c l f true (w.setCell ⟨c, 1, none⟩ (.bool true))) := ⟨_, hA.setBad true, hV.but hb.out hI.off, hI⟩
  clear hA hV hI h
  cases bad with
  | true =>
    clear hn hcell
    go_enter Try.func17, Try.ntmps17
    go_wp2
    exact bodyPost_ret (v := .tuple #[]) (by simp [results, Try.results17]) rfl ⟨rfl, hs.out, hb.out⟩
  | false =>
    cases ho : okN n l with
    | false =>
      rcases okN_false ho with h1 | h1
      · clear hn hcell ho
        go_enter Try.func17, Try.ntmps17
        go_wp2
        exact bodyPost_ret (v := .tuple #[]) (by simp [results, Try.results17]) rfl ⟨rfl, hs.out, hb.out⟩
      · have h0 : 0 ≤ n := by omega
        clear hn hcell ho
        go_enter Try.func17, Try.ntmps17
        go_wp2
        exact bodyPost_ret (v := .tuple #[]) (by simp [results, Try.results17]) rfl ⟨rfl, hs.out, hb.out⟩
    | true =>
      obtain ⟨m, rfl, hm⟩ := okN_true ho
      have hz : zB f m = false := by rw [ho] at hn; simpa using hn
      have n0 : (0 : Int) ≤ (m : Int) := by omega
      have n1 : (m : Int) ≤ (l : Int) := by omega
      replace hcell := hideit hcell
      replace hz := hideit hz
      clear hn ho
      go_enter Try.func17, Try.ntmps17
      go_wp2
      go_loop [4] (fun i => ∃ k : Nat, k ≤ m ∧ i = .int .i64 k ∧ zB f k = true) (fun i => m - (intOf i).toNat)
      case atStart => exact ⟨0, Nat.zero_le _, rfl, rfl⟩
      case round =>
        obtain ⟨k, hk, rfl, hzk⟩ := hrel
        replace hzk := hideit hzk
        by_cases hlt : k < m
        · obtain ⟨ad, rfl, hc⟩ := hcell.out k (by omega)
          have k0 : (0 : Int) ≤ (k : Int) := by omega
          have k1 : (k : Int) < (m : Int) := by omega
          have k2 : (k : Int) < (l : Int) := by omega
          by_cases hx : f k = 0#8
          · have hx2 : ((f k).toNat : Int) = 0 := ne0.2 hx
            have hx3 : zB f (k + 1) = true := by unfold zB; rw [hzk.out, hx]; rfl
            replace hx3 := hideit hx3
            go_wp2
            go_round
            case rel => exact ⟨k + 1, by omega, by go_num, hx3.out⟩
            case measure => simp [intOf]; omega
          · have hx2 : ¬ ((f k).toNat : Int) = 0 := fun e => hx (ne0.1 e)
            go_wp2
            exact bodyPost_ret (v := .tuple #[]) (by simp [results, Try.results17]) rfl ⟨rfl, hs.out, hb.out⟩
        · obtain rfl : k = m := by omega
          have := hz.out
          rw [hzk.out] at this
          cases this
/-- how a Reader goes on -/
def cL (g : Bool) (n : Int) (l : Nat) : Nat := if g then l - n.toNat else l
def cF (g : Bool) (n : Int) (f : Nat → BitVec 8) : Nat → BitVec 8 := if g then shF f n.toNat else f
def uR (g : Bool) (n : Int) (f : Nat → BitVec 8) : BitVec 64 := if g then leN f n.toNat else 0#64
def bN (g : Bool) (n : Int) : Nat := if g then n.toNat else 0
theorem isw_le {n : Nat} (h : iswB (n : Int) = true) : n ≤ 8 := by
  unfold iswB at h
  simp at h
  omega
def gU (n : Int) (bad : Bool) (l : Nat) : Bool := iswB n && !bad && okN n l
def gB (n : Int) (bad : Bool) (l : Nat) : Bool := !bad && okN n l
def gZ (n : Int) (bad : Bool) (l : Nat) (f : Nat → BitVec 8) : Bool := !bad && okN n l && zB f n.toNat
def AllU (P : Nat) : Prop := ∀ (lo c l : Nat) (n : Int) (f : Nat → BitVec 8) (bad : Bool) (w : World), Rd lo c l f bad w → l ≤ 140737488355328 →
    Calls Try.prog P #[.pointer (some ⟨c, 0, none⟩), .int .i64 n] w fun e w' => e = .returned (.int .u64 ((uR (gU n bad l) n f).toNat : Int)) ∧ Rd lo c (cL (gU n bad l) n l) (cF (gU n bad l) n f) (!gU n bad l) w' ∧ But c w w'
def AllB (P : Nat) : Prop := ∀ (lo c l : Nat) (n : Int) (f : Nat → BitVec 8) (bad : Bool) (w : World), Rd lo c l f bad w → l ≤ 140737488355328 →
    Calls Try.prog P #[.pointer (some ⟨c, 0, none⟩), .int .i64 n] w fun e w' => ∃ v, e = .returned v ∧ OwnB w.heap.size 5 v (bN (gB n bad l) n) (yv f) w' ∧ Rd lo c (cL (gB n bad l) n l) (cF (gB n bad l) n f) (!gB n bad l) w' ∧ But c w w'
def AllZ (P : Nat) : Prop := ∀ (lo c l : Nat) (n : Int) (f : Nat → BitVec 8) (bad : Bool) (w : World), Rd lo c l f bad w → l ≤ 140737488355328 →
    Calls Try.prog P #[.pointer (some ⟨c, 0, none⟩), .int .i64 n] w fun e w' => e = .returned (.tuple #[]) ∧ Rd lo c (cL (gZ n bad l f) n l) (cF (gZ n bad l f) n f) (!gZ n bad l f) w' ∧ But c w w'
theorem gU_true {n : Int} {bad : Bool} {l : Nat} (h : gU n bad l = true) : bad = false ∧ iswB n = true ∧ ∃ k : Nat, n = (k : Int) ∧ k ≤ l := by
  unfold gU at h
  simp only [Bool.and_eq_true, Bool.not_eq_true'] at h
  exact ⟨h.1.2, h.1.1, okN_true h.2⟩
theorem gB_true {n : Int} {bad : Bool} {l : Nat} (h : gB n bad l = true) : bad = false ∧ ∃ k : Nat, n = (k : Int) ∧ k ≤ l := by
  unfold gB at h
  simp only [Bool.and_eq_true, Bool.not_eq_true'] at h
  exact ⟨h.1, okN_true h.2⟩
theorem gZ_true {n : Int} {bad : Bool} {l : Nat} {f : Nat → BitVec 8} (h : gZ n bad l f = true) : bad = false ∧ ∃ k : Nat, n = (k : Int) ∧ k ≤ l ∧ zB f k = true := by
  unfold gZ at h
  simp only [Bool.and_eq_true, Bool.not_eq_true'] at h
  obtain ⟨k, rfl, hk⟩ := okN_true h.1.2
  exact ⟨h.1.1, k, rfl, hk, by simpa using h.2⟩
theorem ruint_all : AllU 12 := fun lo c l n f bad w h hl => by
  cases hg : gU n bad l with
  | true =>
    obtain ⟨rfl, hi, k, rfl, hk⟩ := gU_true hg
    exact ruint_ok lo c l k f w h hk hi (isw_le hi)
  | false => exact ruint_not lo c l n f bad w h hg
theorem rruint_all : AllU 13 := fun lo c l n f bad w h hl => by
  cases hg : gU n bad l with
  | true =>
    obtain ⟨rfl, hi, k, rfl, hk⟩ := gU_true hg
    exact rruint_ok lo c l k f w h hk hl hi (isw_le hi)
  | false => exact rruint_not lo c l n f bad w h hg
theorem rbytes_all : AllB 14 := fun lo c l n f bad w h hl => by
  cases hg : gB n bad l with
  | true =>
    obtain ⟨rfl, k, rfl, hk⟩ := gB_true hg
    exact (rbytes_ok lo c l k f w h hk hl).mono fun e w' ⟨v, h1, h2, _, h3, h4⟩ => ⟨v, h1, h2, h3, h4⟩
  | false => exact (rbytes_not lo c l n f bad w h hg).mono fun e w' ⟨h1, h2, h3⟩ => ⟨_, h1, own_nil _ _ _ _, h2, h3⟩
theorem rrbytes_all : AllB 15 := fun lo c l n f bad w h hl => by
  cases hg : gB n bad l with
  | true =>
    obtain ⟨rfl, k, rfl, hk⟩ := gB_true hg
    exact rrbytes_ok lo c l k f w h hk hl
  | false => exact (rrbytes_not lo c l n f bad w h hg).mono fun e w' ⟨h1, h2, h3⟩ => ⟨_, h1, own_nil _ _ _ _, h2, h3⟩
theorem rzeros_all : AllZ 16 := fun lo c l n f bad w h hl => by
  cases hg : gZ n bad l f with
  | true =>
    obtain ⟨rfl, k, rfl, hk, hz⟩ := gZ_true hg
    exact rzeros_ok lo c l k f w h hk hl hz
  | false => exact rzeros_not lo c l n f bad w h hl hg
theorem rrzeros_all : AllZ 17 := fun lo c l n f bad w h hl => by
  cases hg : gZ n bad l f with
  | true =>
    obtain ⟨rfl, k, rfl, hk, hz⟩ := gZ_true hg
    exact rrzeros_ok lo c l k f w h hk hl hz
  | false => exact rrzeros_not lo c l n f bad w h hl hg
theorem cL_le (g : Bool) (n : Int) (l : Nat) : cL g n l ≤ l := by
  unfold cL
  cases g
  · exact Nat.le_refl _
  · exact Nat.sub_le _ _
end Go.Proofs.Ytboncdlihgpepaa
