/-
  The blocks of keys: what their tag is of, and the block.
-/
import Derived.Test.YtomalmnpojcloaaKy1
namespace Go.Proofs.Ytomalmnpojcloaa
open Go.RowKit Go.BigFrame
/-- a block that is no row of bytes -/
def Typ (c : Nat) (w : World) : Prop := ∀ cur, w.heap[c]? ≠ some (.cells cur 5 (0, 0))
theorem typ_new (w : World) (C : Array Value) (t : TypeId) (h : t ≠ 5) : Typ w.heap.size (w.alloc (.cells C t)) := fun cur hh => by
  have h2 : (w.alloc (.cells C t)).heap[w.heap.size]? = some (.cells C t (0, 0)) := by
    show (w.heap.push (.cells C t))[w.heap.size]? = _
    simp
  rw [h2] at hh
  injection hh with hh
  injection hh with _ h3 _
  exact h h3
theorem RowAt.wx {c d n : Nat} {g : Nat → Value} {w X : World} (h : RowAt c n g w) (k : Wx d w X) (hc : c ≠ d) (ht : Typ c w) : RowAt c n g X := by
  have e := k.2 c h.2.2 hc ht
  exact ⟨fun j hj => (World.cell?_of_block (a := ⟨c, j, none⟩) e).trans (h.1 j hj), fun j hj => (World.frozen?_of_block (a := ⟨c, j, none⟩) e).trans (h.2.1 j hj), Nat.lt_of_lt_of_le h.2.2 k.1⟩
/-- an epoch's bytes in a block of keys -/
def oneB (y : BitVec 64) (f : Nat → BitVec 8) (j : Nat) : BitVec 8 := if j < 4 then byB y j else f (j - 4)
theorem ep_bytes {c : Nat} {x : Int} {f : Nat → BitVec 8} {w : World} (h : RowAt c 65 (epv x f) w) : BV (.slice (some ⟨c, 1, none⟩) 64 64) 64 f w :=
  .inr ⟨_, 64, rfl, Nat.le_refl _, fun j hj => by
    rw [add_none, h.1 (1 + j) (by omega)]
    unfold epv yv
    rw [if_neg (by omega), Nat.add_sub_cancel_left], h.2.2⟩
theorem ky_bytes {c : Nat} {v : Value} {f : Nat → BitVec 8} {w : World} (h : RowAt c 33 (kyv v f) w) : BV (.slice (some ⟨c, 1, none⟩) 32 32) 32 f w :=
  .inr ⟨_, 32, rfl, Nat.le_refl _, fun j hj => by
    rw [add_none, h.1 (1 + j) (by omega)]
    unfold kyv yv
    rw [if_neg (by omega), Nat.add_sub_cancel_left], h.2.2⟩
theorem div4 {n : Nat} (h : n ≤ 4294967295) : n / 2 ^ (8 * 4) = 0 := Nat.div_eq_of_lt (Nat.lt_of_le_of_lt h (by decide))
theorem u64_self (y : BitVec 64) : IntKind.u64.wrap (y.toNat : Int) = (y.toNat : Int) := by
  have := y.isLt
  rw [IntKind.wrap_u64]; omega
set_option maxRecDepth 20000 in
set_option maxHeartbeats 2000000 in
theorem put1 (d size m : Nat) (F f : Nat → BitVec 8) (y : BitVec 64) (w : World) (h : Wr d size m F false w) (hy : y.toNat ≤ 4294967295) (hm : m + 68 ≤ size) (hs : size ≤ 16777216) :
    Calls Try.prog 32 #[.pointer (some ⟨d, 0, none⟩), .agg (row 65 (epv (y.toNat : Int) f)).toArray] w fun e w' => e = .returned (.tuple #[]) ∧ Wr d size (m + 68) (catF F m (oneB y f)) false w' ∧ Below d w w' := by
  have H0 : Hid (RowAt w.heap.size 65 (epv (y.toNat : Int) f) (w.alloc (.cells (row 65 (epv (y.toNat : Int) f)).toArray 51))) := RowAt.new w 65 _ 51
  have hE0 : Hid (Ext w (w.alloc (.cells (row 65 (epv (y.toNat : Int) f)).toArray 51))) := (Below.refl _ _).alloc (Nat.le_refl _) _
  have T0 : Hid (Typ w.heap.size (w.alloc (.cells (row 65 (epv (y.toNat : Int) f)).toArray 51))) := typ_new w _ 51 (by decide)
  have hdw := h.lt
  have W0 := hideit (h.ext hE0.out)
  clear h
  go_enter Try.func32, Try.ntmps32
  go_upto_region 1 with (fail)
  obtain ⟨w1, hw1⟩ : ∃ w1, w1 = w.alloc (.cells (row 65 (epv (y.toNat : Int) f)).toArray 51) := ⟨_, rfl⟩
  rw [← hw1] at H0 hE0 T0 W0 ⊢
  clear hw1
  obtain ⟨c, hc⟩ : ∃ c, c = w.heap.size := ⟨_, rfl⟩
  rw [← hc] at H0 T0 ⊢
  have hcd : Hid (c ≠ d) := hideit (by omega)
  have hdw' : Hid (d ≤ w.heap.size) := hideit (by omega)
  clear hc hdw
  have e0 : w1.cell? ⟨c, 0, none⟩ = some (.int .i64 (y.toNat : Int)) := H0.out.1 0 (by decide)
  have hu := u64_self y
  have k := hideit (wuint_okx d size m 4 F false y w1 W0.out (by omega) hs (by decide) (by decide) (div4 hy))
  go_upto_region 2 with (go_at_call 30; refine k.out.mono ?_; rintro e w2 ⟨rfl, hW2, hB2, hX2⟩; replace hW2 := hideit hW2; replace hB2 := hideit hB2; replace hX2 := hideit hX2)
  have H2 := hideit (RowAt.wx H0.out hX2.out hcd.out T0.out)
  have hL2 := hideit (Below.trans (Below.mono hE0.out hdw'.out) hB2.out)
  clear k e0 hu H0 hE0 T0 W0 hB2 hX2
  have k := hideit (wbytes_ok d size (m + 4) 64 _ f false _ w2 hW2.out (by omega) hs (ep_bytes H2.out))
  go_wp2_with (go_at_call 21; refine k.out.mono ?_; rintro e w3 ⟨rfl, hW3, hB3⟩; replace hW3 := hideit hW3; replace hB3 := hideit hB3)
  refine bodyPost_end (v := .tuple #[]) (by simp [results, Try.results32]) rfl ⟨rfl, ?_, Below.trans hL2.out hB3.out⟩
  refine hW3.out.congr fun j hj => ?_
  unfold catF oneB
  by_cases h1 : j < m
  · rw [if_pos (by omega), if_pos h1, if_pos h1]
  · rw [if_neg h1, if_neg h1]
    by_cases h2 : j < m + 4
    · rw [if_pos h2, if_pos (by omega)]
    · rw [if_neg h2, if_neg (by omega), Nat.sub_sub]
theorem put_nil (w : World) : Sem.run Try.prog (binOp .eql 62 (.func (.func 32) #[] #[]) .nilFunc) w = .ok (.bool false) w := by kernel_rfl
/-- the bytes of epochs, one behind the other -/
def manyB (ys : Nat → BitVec 64) (fs : Nat → Nat → BitVec 8) (j : Nat) : BitVec 8 := oneB (ys (j / 68)) (fs (j / 68)) (j % 68)
def yN (ys : Nat → BitVec 64) (i : Nat) : Int := ((ys i).toNat : Int)
set_option maxRecDepth 20000 in
set_option maxHeartbeats 2000000 in
theorem put_any (d size m n cap a o : Nat) (F : Nat → BitVec 8) (ys : Nat → BitVec 64) (fs : Nat → Nat → BitVec 8) (w : World) (h : Wr d size m F false w) (hy : ∀ i, i < n → (ys i).toNat ≤ 4294967295) (hm : m + 68 * n ≤ size) (hs : size ≤ 16777216) (ha : a < d) (hE : EpAt a o n (yN ys) fs w) :
    Calls Try.prog 31 #[.pointer (some ⟨d, 0, none⟩), .slice (some ⟨a, o, none⟩) n cap, .func (.func 32) #[] #[]] w fun e w' => e = .returned (.tuple #[]) ∧ Wr d size (m + 68 * n) (catF F m (manyB ys fs)) false w' ∧ Below d w w' := by
  replace h := hideit h
  replace hE := hideit hE
  replace hy := hideit hy
  have n0 : (0 : Int) ≤ (n : Int) := by omega
  have n1 : (n : Int) ≤ 2097152 := by omega
  have hpn := put_nil
  go_enter Try.func31, Try.ntmps31
  go_wp2
  go_loopw [16] (fun i X => ∃ k : Nat, k ≤ n ∧ i = .int .i64 k ∧ Wr d size (m + 68 * k) (catF F m (manyB ys fs)) false X ∧ Below d w X) (fun i _ => n - (intOf i).toNat)
  case atStart => exact ⟨0, Nat.zero_le _, rfl, h.out.congr fun j hj => (by unfold catF; rw [if_pos (by omega)]), Below.refl _ _⟩
  case round =>
    obtain ⟨k, hk, rfl, hW, hB⟩ := hrel
    by_cases hlt : k < n
    · have k0 : (0 : Int) ≤ (k : Int) := by omega
      have k1 : (k : Int) < (n : Int) := by omega
      have hE1 := hideit (hE.out.below ha hB)
      obtain ⟨H1, hA1, H2, hA2⟩ := made51 wr (yN ys k) (fs k)
      obtain ⟨s, hs0⟩ : ∃ s, s = wr.heap.size := ⟨_, rfl⟩
      rw [← hs0] at H1 H2 hA2
      have hdwr := hW.lt
      replace hB := hideit hB
      replace hW := hideit hW
      go_upto_region 3 with (fail)
      refine wp_region_lit ?_
      refine wpList_run rfl (.pointer (some ⟨a, o + k * 65, none⟩)) (by simp [go_sem, k0, k1]) ?_
      simp only [Act.put, List.setIfInBounds_toArray, List.set_cons_zero, List.set_cons_succ]
      refine wpList_load_mid rfl 51 (.tmp 18) rfl a (o + k * 65) rfl (row 65 (epv (yN ys k) (fs k))) _ (hE1.out.range k hlt) Try.underlying51 rfl (by rw [row_length]; exact info51) ?_
      simp only [Act.put, List.setIfInBounds_toArray, List.set_cons_zero, List.set_cons_succ]
      refine wpList_to rfl (.pointer (some ⟨s, 0, none⟩)) (wr.alloc (.cells zk51 51)) (by rw [hs0]; exact alloc51 rfl) ?_
      simp only [Act.put, List.setIfInBounds_toArray, List.set_cons_zero, List.set_cons_succ]
      refine wpList_store_mid rfl 51 (.tmp 7) (.tmp 19) rfl s 0 (row 65 (epv (yN ys k) (fs k))).toArray rfl rfl (by rw [row_size]; exact H1.there) (by rw [row_size]; exact info51) (row_one (epv_one _ _)) ?_
      rw [show (row 65 (epv (yN ys k) (fs k))).toArray.toList = row 65 (epv (yN ys k) (fs k)) from rfl]
      have W2 := hideit (hW.out.ext hA2)
      have L2 := hideit (Ext.below hB.out (by omega) hA2)
      have S2 := hideit H2
      clear H1 hA1 H2 hA2 hs0 hE1 hB hW
      generalize (wr.alloc (.cells zk51 51)).setCells s 0 (row 65 (epv (yN ys k) (fs k))) = w2 at *
      simp only [Act.put]
      have kk := hideit (put1 d size (m + 68 * k) (catF F m (manyB ys fs)) (fs k) (ys k) w2 W2.out (hy.out k hlt) (by omega) hs)
      go_upto_region 4 with (fail)
      refine wp_region_lit ?_
      refine wpList_run rfl (.func (.func 32) #[] #[]) (by simp [go_sem]) ?_
      simp only [Act.put, List.setIfInBounds_toArray, List.set_cons_zero, List.set_cons_succ]
      refine wpList_run rfl (.pointer (some ⟨d, 0, none⟩)) (by simp [go_sem]) ?_
      simp only [Act.put, List.setIfInBounds_toArray, List.set_cons_zero, List.set_cons_succ]
      refine wpList_load_mid rfl 51 (.tmp 7) rfl s 0 rfl (row 65 (epv (yN ys k) (fs k))) _ S2.out.range Try.underlying51 rfl (by rw [row_length]; exact info51) ?_
      simp only [Act.put, List.setIfInBounds_toArray, List.set_cons_zero, List.set_cons_succ]
      refine wpList_call rfl (by simp [go_sem]; exact ⟨rfl, rfl⟩) ?_
      refine kk.out.mono ?_
      rintro e w3 ⟨rfl, h1, h2⟩
      refine ⟨_, rfl, ?_⟩
      simp only [Act.put, List.setIfInBounds_toArray, List.set_cons_zero, List.set_cons_succ]
      replace h1 := hideit h1
      replace h2 := hideit h2
      clear kk S2 W2
      go_wp2
      refine ⟨⟨k + 1, by omega, by go_num, ?_, Below.trans L2.out h2.out⟩, by simp [intOf]; omega⟩
      refine h1.out.congr fun j hj => ?_
      unfold catF
      by_cases hj8 : j < m + 68 * k
      · rw [if_pos hj8]
      · rw [if_neg hj8, if_neg (by omega)]
        unfold manyB
        rw [show (j - m) / 68 = k by omega, show (j - m) % 68 = j - (m + 68 * k) by omega]
    · obtain rfl : k = n := by omega
      go_wp2
      exact bodyPost_end (v := .tuple #[]) (by simp [results, Try.results31]) rfl ⟨rfl, hW, hB⟩
end Go.Proofs.Ytomalmnpojcloaa
