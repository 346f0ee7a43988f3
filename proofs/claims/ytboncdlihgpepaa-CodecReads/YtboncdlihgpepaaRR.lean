/-
  The document's Readers, for every Reader in every world.
-/
import Derived.Test.YtboncdlihgpepaaRd3
import Derived.Test.YtboncdlihgpepaaWr
namespace Go.Proofs.Ytboncdlihgpepaa
open Go.RowKit Go.BigFrame
theorem wide_any (n : Int) (w : World) : Calls Try.prog 46 #[.int .i64 n] w fun e w' => e = .returned (.bool (iswB n)) ∧ w' = w := by
  go_enter Try.func46, Try.ntmps46
  go_wp2
  all_goals
    go_ret
    exact ⟨by simp [iswB, *], rfl⟩
set_option maxRecDepth 20000 in
theorem rrnew_any (v : Value) (l : Nat) (f : Nat → BitVec 8) (w : World) (h : BV v l f w) (hl : l ≤ 140737488355328) :
    Calls Try.prog 10 #[v] w fun e w' => ∃ c, e = .returned (.pointer (some ⟨c, 0, none⟩)) ∧ w.heap.size ≤ c ∧ Rd w.heap.size c l f false w' ∧ Ext w w' := by
  obtain ⟨oa, cp, rfl⟩ := h.form
  have hE : Ext w (w.alloc (.cells #[] 5)) := (Below.refl _ _).alloc (Nat.le_refl _) _
  have hO := hideit (own_empty w w.heap.size 5 (yv f) (Nat.le_refl _))
  have hB := hideit (h.ext hE)
  replace hE := hideit hE
  clear h
  go_enter Try.func10, Try.ntmps10
  go_upto_region 1 with (fail)
  refine wp_region_lit ?_
  refine wpList_to rfl (.slice (some ⟨w.heap.size, 0, none⟩) 0 0) (w.alloc (.cells #[] 5)) (by simp [go_sem]) ?_
  simp only [Act.put, List.setIfInBounds_toArray, List.set_cons_zero, List.set_cons_succ]
  refine wpList_run rfl (.slice oa l cp) (by simp [go_sem]) ?_
  simp only [Act.put, List.setIfInBounds_toArray, List.set_cons_zero, List.set_cons_succ]
  refine wpList_growV (n := 0) (base := w.heap.size) elem22 rfl (.tmp 3) (.tmp 4) rfl rfl hO.out (.slice oa l cp) l f (yv f) rfl hB.out (fun _ _ => rfl) (fun j hj => by rw [Nat.zero_add]) (by omega) (Below.size hE.out) ?_
  intro v1 w1 hO1 hg1
  rw [Nat.zero_add] at hO1
  have hE1 := hideit (grownE hE.out hO.out (Nat.le_refl _) hg1)
  replace hO1 := hideit hO1
  obtain ⟨o1, c1, rfl⟩ := hO1.out.bv.form
  simp only [Act.put, List.setIfInBounds_toArray, List.set_cons_zero, List.set_cons_succ]
  clear hE hO hg1 hB
  go_wp2
  go_ret
  exact ⟨_, rfl, Below.size hE1.out, rd_new _ w1 _ l f hO1.out.bv hO1.out.inB 37, Ext.trans hE1.out ((Below.refl _ _).alloc (Nat.le_refl _) _)⟩
set_option maxRecDepth 20000 in
theorem rrbytes_ok (lo c l n : Nat) (f : Nat → BitVec 8) (w : World) (h : Rd lo c l f false w) (hn : n ≤ l) (hl : l ≤ 140737488355328) :
    Calls Try.prog 15 #[.pointer (some ⟨c, 0, none⟩), .int .i64 n] w fun e w' => ∃ v, e = .returned v ∧ OwnB w.heap.size 5 v n (yv f) w' ∧ Rd lo c (l - n) (shF f n) false w' ∧ But c w w' := by
  have n0 : (0 : Int) ≤ (n : Int) := by omega
  have n1 : (n : Int) ≤ (l : Int) := by omega
  obtain ⟨v, h1, h2, h3⟩ := h
  have h1' := h1
  rcases h2 with ⟨rfl, rfl⟩ | ⟨a, cap, rfl, h4, h5⟩
  · obtain rfl : n = 0 := by omega
    have n2 : (0 : Nat) ≤ 0 := Nat.le_refl _
    have e0 := h1.bytes
    have e1 := h1.bad
    have g0 := h1.2.1 0 (by decide)
    have hE : Ext w (w.alloc (.cells #[] 5)) := (Below.refl _ _).alloc (Nat.le_refl _) _
    have hO := hideit (own_empty w w.heap.size 5 (yv f) (Nat.le_refl _))
    have hA : Hid (RdAt c (.slice none 0 0) false (w.alloc (.cells #[] 5))) := RowAt.carry h1 hE
    have hV : Hid (BV (.slice none 0 0) 0 f (w.alloc (.cells #[] 5))) := .inl ⟨rfl, rfl⟩
    have hw : Hid (c < w.heap.size) := h1.2.2
    have e2 := hA.out.bytes
    replace hE := hideit hE
    clear h1 g0
    go_enter Try.func15, Try.ntmps15
    go_upto_region 4 with (fail)
    refine wp_region_lit ?_
    refine wpList_to rfl (.slice (some ⟨w.heap.size, 0, none⟩) 0 0) (w.alloc (.cells #[] 5)) (by simp [go_sem]) ?_
    simp only [Act.put, List.setIfInBounds_toArray, List.set_cons_zero, List.set_cons_succ]
    refine wpList_run rfl (.pointer (some ⟨c, 0, none⟩)) (by simp [go_sem]) ?_
    simp only [Act.put, List.setIfInBounds_toArray, List.set_cons_zero, List.set_cons_succ]
    refine wpList_run rfl (.pointer (some ⟨c, 0, none⟩)) (by simp [go_sem]) ?_
    simp only [Act.put, List.setIfInBounds_toArray, List.set_cons_zero, List.set_cons_succ]
    refine wpList_run rfl (.pointer (some ⟨c, 0, none⟩)) (by simp [go_sem]) ?_
    simp only [Act.put, List.setIfInBounds_toArray, List.set_cons_zero, List.set_cons_succ]
    refine wpList_run rfl (.slice none 0 0) (by simp [go_sem, e2]) ?_
    simp only [Act.put, List.setIfInBounds_toArray, List.set_cons_zero, List.set_cons_succ]
    refine wpList_run rfl (.int .i64 (0 : Nat)) (by simp [go_sem]) ?_
    simp only [Act.put, List.setIfInBounds_toArray, List.set_cons_zero, List.set_cons_succ]
    refine wpList_run rfl (.slice none 0 0) (by simp [go_sem]) ?_
    simp only [Act.put, List.setIfInBounds_toArray, List.set_cons_zero, List.set_cons_succ]
    refine wpList_growV (n := 0) (base := w.heap.size) elem22 rfl (.tmp 26) (.tmp 32) rfl rfl hO.out (.slice none 0 0) 0 f (yv f) rfl hV.out (fun _ _ => rfl) (fun j hj => by rw [Nat.zero_add]) (by omega) (Below.size hE.out) ?_
    intro v1 w1 hO1 hg1
    rw [Nat.zero_add] at hO1
    have hE1 := hideit (grownE hE.out hO.out (Nat.le_refl _) hg1)
    replace hO1 := hideit hO1
    obtain ⟨o1, c1, rfl⟩ := hO1.out.bv.form
    clear e0 e1 e2 hg1 hO hE hV
    have hA1 : RdAt c (.slice none 0 0) false w1 := RowAt.carry h1' hE1.out
    have e0 := hA1.bytes
    have g0 := hA1.2.1 0 (by decide)
    have hb := hideit (but_setCell w1 c 0 (.slice none 0 0))
    have hs := hideit (hA1.setBytes (.slice none 0 0))
    have hO2 := hideit (hO1.out.but hb.out (own_noblock hO1.out hw.out))
    clear hA1 hA
    simp only [Act.put, List.setIfInBounds_toArray, List.set_cons_zero, List.set_cons_succ]
    go_wp2
    go_ret
    exact ⟨_, rfl, hO2.out, ⟨_, hs.out, .inl ⟨rfl, rfl⟩, (fun a n cp hh => by cases hh)⟩, But.trans (But.of_ext hE1.out) hb.out⟩
  · have n2 : (n : Int) ≤ (cap : Int) := by omega
    have hi := h3 _ _ _ rfl
    have H4 := hideit h4
    have H5 := hideit h5
    by_cases hct : cap = n
    · have e0 := h1.bytes
      have e1 := h1.bad
      have g0 := h1.2.1 0 (by decide)
      have hE : Ext w (w.alloc (.cells #[] 5)) := (Below.refl _ _).alloc (Nat.le_refl _) _
      have hO := hideit (own_empty w w.heap.size 5 (yv f) (Nat.le_refl _))
      have hA : Hid (RdAt c (.slice (some a) l cap) false (w.alloc (.cells #[] 5))) := RowAt.carry h1 hE
      have hV : Hid (BV (.slice (some a) n cap) n f (w.alloc (.cells #[] 5))) := .inr ⟨a, cap, rfl, by omega, ⟨fun j hj => (h5.carry hE).1 j (by omega), (h5.carry hE).2⟩⟩
      have hw : Hid (c < w.heap.size) := h1.2.2
      have e2 := hA.out.bytes
      replace hE := hideit hE
      clear h1 g0
      go_enter Try.func15, Try.ntmps15
      go_upto_region 4 with (fail)
      refine wp_region_lit ?_
      refine wpList_to rfl (.slice (some ⟨w.heap.size, 0, none⟩) 0 0) (w.alloc (.cells #[] 5)) (by simp [go_sem]) ?_
      simp only [Act.put, List.setIfInBounds_toArray, List.set_cons_zero, List.set_cons_succ]
      refine wpList_run rfl (.pointer (some ⟨c, 0, none⟩)) (by simp [go_sem]) ?_
      simp only [Act.put, List.setIfInBounds_toArray, List.set_cons_zero, List.set_cons_succ]
      refine wpList_run rfl (.pointer (some ⟨c, 0, none⟩)) (by simp [go_sem]) ?_
      simp only [Act.put, List.setIfInBounds_toArray, List.set_cons_zero, List.set_cons_succ]
      refine wpList_run rfl (.pointer (some ⟨c, 0, none⟩)) (by simp [go_sem]) ?_
      simp only [Act.put, List.setIfInBounds_toArray, List.set_cons_zero, List.set_cons_succ]
      refine wpList_run rfl (.slice (some a) l cap) (by simp [go_sem, e2]) ?_
      simp only [Act.put, List.setIfInBounds_toArray, List.set_cons_zero, List.set_cons_succ]
      refine wpList_run rfl (.int .i64 (n : Nat)) (by simp [go_sem]) ?_
      simp only [Act.put, List.setIfInBounds_toArray, List.set_cons_zero, List.set_cons_succ]
      refine wpList_run rfl (.slice (some a) n cap) (by simp [go_sem, n0, n2]) ?_
      simp only [Act.put, List.setIfInBounds_toArray, List.set_cons_zero, List.set_cons_succ]
      refine wpList_growV (n := 0) (base := w.heap.size) elem22 rfl (.tmp 26) (.tmp 32) rfl rfl hO.out (.slice (some a) n cap) n f (yv f) rfl hV.out (fun _ _ => rfl) (fun j hj => by rw [Nat.zero_add]) (by omega) (Below.size hE.out) ?_
      intro v1 w1 hO1 hg1
      rw [Nat.zero_add] at hO1
      have hE1 := hideit (grownE hE.out hO.out (Nat.le_refl _) hg1)
      replace hO1 := hideit hO1
      obtain ⟨o1, c1, rfl⟩ := hO1.out.bv.form
      clear e0 e1 e2 hg1 hO hE hV
      have hA1 : RdAt c (.slice (some a) l cap) false w1 := RowAt.carry h1' hE1.out
      have e0 := hA1.bytes
      have g0 := hA1.2.1 0 (by decide)
      have hb := hideit (but_setCell w1 c 0 (.slice (some a) (l - n) 0))
      have hs := hideit (hA1.setBytes (.slice (some a) (l - n) 0))
      have hO2 := hideit (hO1.out.but hb.out (own_noblock hO1.out hw.out))
      clear hA1 hA
      simp only [Act.put, List.setIfInBounds_toArray, List.set_cons_zero, List.set_cons_succ]
      go_wp2
      go_ret
      exact ⟨_, rfl, hO2.out, ⟨_, hs.out, .inr ⟨a, 0, rfl, by have := H4.out; omega, ⟨fun j hj => by have := H4.out; omega, ((H5.out.carry hE1.out).but hb.out (Nat.ne_of_lt hi.2)).2⟩⟩, (fun x y z hh => by injection hh with hh; injection hh with hh; rw [← hh]; exact hi)⟩, But.trans (But.of_ext hE1.out) hb.out⟩
    · have e0 := h1.bytes
      have e1 := h1.bad
      have g0 := h1.2.1 0 (by decide)
      have hE : Ext w (w.alloc (.cells #[] 5)) := (Below.refl _ _).alloc (Nat.le_refl _) _
      have hO := hideit (own_empty w w.heap.size 5 (yv f) (Nat.le_refl _))
      have hA : Hid (RdAt c (.slice (some a) l cap) false (w.alloc (.cells #[] 5))) := RowAt.carry h1 hE
      have hV : Hid (BV (.slice (some a) n cap) n f (w.alloc (.cells #[] 5))) := .inr ⟨a, cap, rfl, by omega, ⟨fun j hj => (h5.carry hE).1 j (by omega), (h5.carry hE).2⟩⟩
      have hw : Hid (c < w.heap.size) := h1.2.2
      have e2 := hA.out.bytes
      replace hE := hideit hE
      clear h1 g0
      go_enter Try.func15, Try.ntmps15
      go_upto_region 4 with (fail)
      refine wp_region_lit ?_
      refine wpList_to rfl (.slice (some ⟨w.heap.size, 0, none⟩) 0 0) (w.alloc (.cells #[] 5)) (by simp [go_sem]) ?_
      simp only [Act.put, List.setIfInBounds_toArray, List.set_cons_zero, List.set_cons_succ]
      refine wpList_run rfl (.pointer (some ⟨c, 0, none⟩)) (by simp [go_sem]) ?_
      simp only [Act.put, List.setIfInBounds_toArray, List.set_cons_zero, List.set_cons_succ]
      refine wpList_run rfl (.pointer (some ⟨c, 0, none⟩)) (by simp [go_sem]) ?_
      simp only [Act.put, List.setIfInBounds_toArray, List.set_cons_zero, List.set_cons_succ]
      refine wpList_run rfl (.pointer (some ⟨c, 0, none⟩)) (by simp [go_sem]) ?_
      simp only [Act.put, List.setIfInBounds_toArray, List.set_cons_zero, List.set_cons_succ]
      refine wpList_run rfl (.slice (some a) l cap) (by simp [go_sem, e2]) ?_
      simp only [Act.put, List.setIfInBounds_toArray, List.set_cons_zero, List.set_cons_succ]
      refine wpList_run rfl (.int .i64 (n : Nat)) (by simp [go_sem]) ?_
      simp only [Act.put, List.setIfInBounds_toArray, List.set_cons_zero, List.set_cons_succ]
      refine wpList_run rfl (.slice (some a) n cap) (by simp [go_sem, n0, n2]) ?_
      simp only [Act.put, List.setIfInBounds_toArray, List.set_cons_zero, List.set_cons_succ]
      refine wpList_growV (n := 0) (base := w.heap.size) elem22 rfl (.tmp 26) (.tmp 32) rfl rfl hO.out (.slice (some a) n cap) n f (yv f) rfl hV.out (fun _ _ => rfl) (fun j hj => by rw [Nat.zero_add]) (by omega) (Below.size hE.out) ?_
      intro v1 w1 hO1 hg1
      rw [Nat.zero_add] at hO1
      have hE1 := hideit (grownE hE.out hO.out (Nat.le_refl _) hg1)
      replace hO1 := hideit hO1
      obtain ⟨o1, c1, rfl⟩ := hO1.out.bv.form
      clear e0 e1 e2 hg1 hO hE hV
      have hA1 : RdAt c (.slice (some a) l cap) false w1 := RowAt.carry h1' hE1.out
      have e0 := hA1.bytes
      have g0 := hA1.2.1 0 (by decide)
      have hb := hideit (but_setCell w1 c 0 (.slice (some (a.add n)) (l - n) (cap - n)))
      have hs := hideit (hA1.setBytes (.slice (some (a.add n)) (l - n) (cap - n)))
      have hO2 := hideit (hO1.out.but hb.out (own_noblock hO1.out hw.out))
      clear hA1 hA
      simp only [Act.put, List.setIfInBounds_toArray, List.set_cons_zero, List.set_cons_succ]
      go_wp2
      go_ret
      exact ⟨_, rfl, hO2.out, ⟨_, hs.out, .inr ⟨a.add n, cap - n, rfl, by have := H4.out; omega, ⟨fun j hj => by rw [add_add]; exact ((H5.out.carry hE1.out).but hb.out (Nat.ne_of_lt hi.2)).1 (n + j) (by omega), by rw [add_block]; exact ((H5.out.carry hE1.out).but hb.out (Nat.ne_of_lt hi.2)).2⟩⟩, (fun x y z hh => by injection hh with hh; injection hh with hh; rw [← hh, add_block]; exact hi)⟩, But.trans (But.of_ext hE1.out) hb.out⟩
set_option maxRecDepth 20000 in
theorem rrbytes_not (lo c l : Nat) (n : Int) (f : Nat → BitVec 8) (bad : Bool) (w : World) (h : Rd lo c l f bad w) (hn : (!bad && okN n l) = false) :
    Calls Try.prog 15 #[.pointer (some ⟨c, 0, none⟩), .int .i64 n] w fun e w' => e = .returned (.slice none 0 0) ∧ Rd lo c l f true w' ∧ But c w w' := by
  obtain ⟨v, h1, h2, h3⟩ := h
  obtain ⟨oa, cp, rfl⟩ := h2.form
  have e0 := h1.bytes
  have e1 := h1.bad
  have g1 := h1.2.1 1 (by decide)
  have hb := hideit (but_setCell w c 1 (.bool true))
  have hs : Hid (Rd lo c l f true (w.setCell ⟨c, 1, none⟩ (.bool true))) := ⟨_, h1.setBad true, h2.but hb.out h3.off, h3⟩
  clear h1 h2 h3
  cases bad with
  | true =>
    clear hn
    go_enter Try.func15, Try.ntmps15
    go_wp2
    go_ret
    exact ⟨rfl, hs.out, hb.out⟩
  | false =>
    rcases okN_false (by simpa using hn) with h1 | h1
    · clear hn
      go_enter Try.func15, Try.ntmps15
      go_wp2
      go_ret
      exact ⟨rfl, hs.out, hb.out⟩
    · have h0 : 0 ≤ n := by omega
      clear hn
      go_enter Try.func15, Try.ntmps15
      go_wp2
      go_ret
      exact ⟨rfl, hs.out, hb.out⟩
set_option maxRecDepth 20000 in
set_option maxHeartbeats 2000000 in
theorem rruint_ok (lo c l n : Nat) (f : Nat → BitVec 8) (w : World) (h : Rd lo c l f false w) (hn : n ≤ l) (hl : l ≤ 140737488355328) (hw : iswB n = true) (hn8 : n ≤ 8) :
    Calls Try.prog 13 #[.pointer (some ⟨c, 0, none⟩), .int .i64 n] w fun e w' => e = .returned (.int .u64 ((leN f n).toNat : Int)) ∧ Rd lo c (l - n) (shF f n) false w' ∧ But c w w' := by
  replace h := hideit h
  replace hw := hideit hw
  go_enter Try.func13, Try.ntmps13
  go_wp2_with (first | (go_at_call 46; refine (wide_any n _).mono ?_; rw [hw.out]; rintro e w' ⟨rfl, rfl⟩) | (go_at_call 15; refine (rrbytes_ok lo c l n f _ h.out hn hl).mono ?_; rintro e w1 ⟨v1, rfl, hv1, hr1, hb1⟩; obtain ⟨oa, cp, rfl⟩ := hv1.bv.form; replace hv1 := hideit hv1.bv; replace hr1 := hideit hr1; replace hb1 := hideit hb1; clear h))
  have hcell : Hid (∀ j, j < n → ∃ ad, oa = some ad ∧ w1.cell? (ad.add j) = some (.int .u8 ((f j).toNat : Int))) := by
    intro j hj
    rcases hv1.out with ⟨_, h0⟩ | ⟨a, cap, h1, h2, h3⟩
    · omega
    · injection h1 with h1 _ _
      exact ⟨a, h1, h3.1 j hj⟩
  clear hv1
  go_loop [6, 7] (fun x i => ∃ k : Nat, k ≤ n ∧ i = .int .i64 k ∧ x = .int .u64 ((leN f k).toNat : Int)) (fun _ i => n - (intOf i).toNat)
  case atStart => exact ⟨0, Nat.zero_le _, rfl, rfl⟩
  case round =>
    obtain ⟨k, hk, rfl, rfl⟩ := hrel
    by_cases hlt : k < n
    · obtain ⟨ad, rfl, hc⟩ := hcell.out k hlt
      have k0 : (0 : Int) ≤ (k : Int) := by omega
      have k1 : (k : Int) < (n : Int) := by omega
      have k2 : (k : Int) < 8 := by omega
      go_wp2
      go_round
      case rel =>
        refine ⟨k + 1, by omega, by go_num, ?_⟩
        rw [or_wrap]
        rfl
      case measure => simp [intOf]; omega
    · obtain rfl : k = n := by omega
      go_wp2
      go_ret
      exact ⟨rfl, hr1.out, hb1.out⟩
set_option maxRecDepth 20000 in
set_option maxHeartbeats 2000000 in
theorem rruint_not (lo c l : Nat) (n : Int) (f : Nat → BitVec 8) (bad : Bool) (w : World) (h : Rd lo c l f bad w) (hn : (iswB n && !bad && okN n l) = false) :
    Calls Try.prog 13 #[.pointer (some ⟨c, 0, none⟩), .int .i64 n] w fun e w' => e = .returned (.int .u64 0) ∧ Rd lo c l f true w' ∧ But c w w' := by
  cases hi : iswB n with
  | true =>
    have hn2 : (!bad && okN n l) = false := by simpa [hi] using hn
    clear hn
    replace h := hideit h
    replace hn2 := hideit hn2
    replace hi := hideit hi
    go_enter Try.func13, Try.ntmps13
    go_wp2_with (first | (go_at_call 46; refine (wide_any n _).mono ?_; rw [hi.out]; rintro e w' ⟨rfl, rfl⟩) | (go_at_call 15; refine (rrbytes_not lo c l n f bad _ h.out hn2.out).mono ?_; rintro e w1 ⟨rfl, hr1, hb1⟩; replace hr1 := hideit hr1; replace hb1 := hideit hb1; clear h))
    go_loop [6, 7] (fun x i => x = .int .u64 0 ∧ i = .int .i64 0) (fun _ _ => 0)
    case atStart => exact ⟨rfl, rfl⟩
    case round =>
      obtain ⟨rfl, rfl⟩ := hrel
      go_wp2
      go_ret
      exact ⟨rfl, hr1.out, hb1.out⟩
  | false =>
    obtain ⟨v, h1, h2, h3⟩ := h
    have g1 := h1.2.1 1 (by decide)
    have e1 := h1.bad
    have hb0 := hideit (but_setCell w c 1 (.bool true))
    have hr0 : Hid (Rd lo c l f true (w.setCell ⟨c, 1, none⟩ (.bool true))) := ⟨v, h1.setBad true, h2.but hb0.out h3.off, h3⟩
    replace hi := hideit hi
    clear h1 h2 h3 hn
    go_enter Try.func13, Try.ntmps13
    go_wp2_with (go_at_call 46; refine (wide_any n _).mono ?_; rw [hi.out]; rintro e w' ⟨rfl, rfl⟩)
    go_ret
    exact ⟨rfl, hr0.out, hb0.out⟩
set_option maxRecDepth 20000 in
set_option maxHeartbeats 2000000 in
theorem rrdone_any (lo c l : Nat) (f : Nat → BitVec 8) (bad : Bool) (w : World) (h : Rd lo c l f bad w) (hl : l ≤ 140737488355328) :
    Calls Try.prog 20 #[.pointer (some ⟨c, 0, none⟩)] w fun e w' => e = .returned (.int .i64 (dnI (bad || !zB f l))) ∧ w' = w := by
  obtain ⟨v, h1, h2, h3⟩ := h
  obtain ⟨oa, cp, rfl⟩ := h2.form
  have e0 := h1.bytes
  have e1 := h1.bad
  have hcell : Hid (∀ j, j < l → ∃ ad, oa = some ad ∧ w.cell? (ad.add j) = some (.int .u8 ((f j).toNat : Int))) := by
    intro j hj
    rcases h2 with ⟨_, h0⟩ | ⟨a, cap, h1, h2, h3⟩
    · omega
    · injection h1 with h1 _ _
      exact ⟨a, h1, h3.1 j hj⟩
  clear h1 h2 h3
  go_enter Try.func20, Try.ntmps20
  go_wp2
  go_loop [3] (fun i => ∃ k : Nat, k ≤ l ∧ i = .int .i64 k ∧ zB f k = true) (fun i => l - (intOf i).toNat)
  case atStart => exact ⟨0, Nat.zero_le _, rfl, rfl⟩
  case round =>
    obtain ⟨k, hk, rfl, hz⟩ := hrel
    replace hz := hideit hz
    by_cases hlt : k < l
    · obtain ⟨ad, rfl, hc⟩ := hcell.out k hlt
      have k0 : (0 : Int) ≤ (k : Int) := by omega
      have k1 : (k : Int) < (l : Int) := by omega
      by_cases hx : f k = 0#8
      · have hx2 : ((f k).toNat : Int) = 0 := ne0.2 hx
        have hx3 : zB f (k + 1) = true := by unfold zB; rw [hz.out, hx]; rfl
        replace hx3 := hideit hx3
        go_wp2
        go_round
        case rel => exact ⟨k + 1, by omega, by go_num, hx3.out⟩
        case measure => simp [intOf]; omega
      · have hx2 : ¬ ((f k).toNat : Int) = 0 := fun e => hx (ne0.1 e)
        have hx3 := hideit (zB_false hx l hlt)
        go_wp2
        go_ret
        exact ⟨by rw [hx3.out]; cases bad <;> rfl, rfl⟩
    · obtain rfl : k = l := by omega
      cases bad with
      | true =>
        go_wp2
        go_ret
        exact ⟨rfl, rfl⟩
      | false =>
        go_wp2
        go_ret
        exact ⟨by rw [hz.out]; rfl, rfl⟩
end Go.Proofs.Ytboncdlihgpepaa
