/-
  Four words stirred: the program's and the document's sums and turns.
-/
import Derived.Test.YtfbmeclpcgdmhabDoorMixAll
namespace Go.Proofs.YtfbmeclpcgdmhabDoor
open Go.RowKit Go.BigFrame
def loW (x : BitVec 64) : BitVec 64 := BitVec.ofNat 64 (x.toNat % 4294967296)
def mW (x y : BitVec 64) : BitVec 64 := x * y
theorem loW_nat (x : BitVec 64) : (loW x).toNat = x.toNat % 4294967296 := by
  unfold loW
  rw [BitVec.toNat_ofNat]
  omega
theorem mW_wrap (x y : BitVec 64) : IntKind.u64.wrap ((x.toNat : Int) * (y.toNat : Int)) = ((mW x y).toNat : Int) := by
  unfold mW
  rw [IntKind.wrap_u64, BitVec.toNat_mul, Int.natCast_emod, Int.natCast_mul]
  rfl
theorem mW_two (y : BitVec 64) : IntKind.u64.wrap (2 * (y.toNat : Int)) = ((mW 2#64 y).toNat : Int) := mW_wrap 2#64 y
theorem lo32 (x : BitVec 64) : IntKind.u32.wrap (x.toNat : Int) = ((loW x).toNat : Int) := by rw [IntKind.wrap_u32, loW_nat]; omega
theorem lo64 (x : BitVec 64) : IntKind.u64.wrap ((loW x).toNat : Int) = ((loW x).toNat : Int) := by have := (loW x).isLt; rw [IntKind.wrap_u64]; omega
theorem loRem (x : BitVec 64) : ((x.toNat : Int)).tmod 4294967296 = ((loW x).toNat : Int) := by rw [loW_nat, Int.tmod_eq_emod_of_nonneg (by omega)]; omega
/-- the sum of two words, and twice the product of their lower halves -/
def blF (x y : BitVec 64) : BitVec 64 := sW (sW x y) (mW (mW 2#64 (loW x)) (loW y))
set_option maxRecDepth 20000 in
set_option maxHeartbeats 4000000 in
theorem blend_any (x y : BitVec 64) (w : World) : Calls Tryd.prog 45 #[.int .u64 ((x).toNat : Int), .int .u64 ((y).toNat : Int)] w fun e w' => e = .returned (.int .u64 ((blF x y).toNat : Int)) ∧ w' = w := by
  have f1 := sW_wrap x y
  have f2 := lo32 x
  have f3 := lo64 x
  have f4 := mW_two (loW x)
  have f5 := lo32 y
  have f6 := lo64 y
  have f7 := mW_wrap (mW 2#64 (loW x)) (loW y)
  have f8 := sW_wrap (sW x y) (mW (mW 2#64 (loW x)) (loW y))
  go_enter Tryd.func45, Tryd.ntmps45
  go_upto_region 1 with (fail)
  refine wp_region_lit ?_
  refine wpList_run rfl (.int .u64 ((x).toNat : Int)) (by simp [go_sem]) ?_
  simp only [Act.put, List.setIfInBounds_toArray, List.set_cons_zero, List.set_cons_succ]
  refine wpList_run rfl (.int .u64 ((y).toNat : Int)) (by simp [go_sem]) ?_
  simp only [Act.put, List.setIfInBounds_toArray, List.set_cons_zero, List.set_cons_succ]
  refine wpList_run rfl (.int .u64 ((sW x y).toNat : Int)) (by simp [go_sem, f1]) ?_
  simp only [Act.put, List.setIfInBounds_toArray, List.set_cons_zero, List.set_cons_succ]
  refine wpList_run rfl (.int .u64 ((x).toNat : Int)) (by simp [go_sem]) ?_
  simp only [Act.put, List.setIfInBounds_toArray, List.set_cons_zero, List.set_cons_succ]
  refine wpList_run rfl (.int .u32 ((loW x).toNat : Int)) (by simp [go_sem, f2]) ?_
  simp only [Act.put, List.setIfInBounds_toArray, List.set_cons_zero, List.set_cons_succ]
  refine wpList_run rfl (.int .u64 ((loW x).toNat : Int)) (by simp [go_sem, f3]) ?_
  simp only [Act.put, List.setIfInBounds_toArray, List.set_cons_zero, List.set_cons_succ]
  refine wpList_run rfl (.int .u64 ((mW 2#64 (loW x)).toNat : Int)) (by simp [go_sem, f4]) ?_
  simp only [Act.put, List.setIfInBounds_toArray, List.set_cons_zero, List.set_cons_succ]
  refine wpList_run rfl (.int .u64 ((y).toNat : Int)) (by simp [go_sem]) ?_
  simp only [Act.put, List.setIfInBounds_toArray, List.set_cons_zero, List.set_cons_succ]
  refine wpList_run rfl (.int .u32 ((loW y).toNat : Int)) (by simp [go_sem, f5]) ?_
  simp only [Act.put, List.setIfInBounds_toArray, List.set_cons_zero, List.set_cons_succ]
  refine wpList_run rfl (.int .u64 ((loW y).toNat : Int)) (by simp [go_sem, f6]) ?_
  simp only [Act.put, List.setIfInBounds_toArray, List.set_cons_zero, List.set_cons_succ]
  refine wpList_run rfl (.int .u64 ((mW (mW 2#64 (loW x)) (loW y)).toNat : Int)) (by simp [go_sem, f7]) ?_
  simp only [Act.put, List.setIfInBounds_toArray, List.set_cons_zero, List.set_cons_succ]
  refine wpList_run rfl (.int .u64 ((blF x y).toNat : Int)) (by simp [go_sem, f8, blF]) ?_
  simp only [Act.put, List.setIfInBounds_toArray, List.set_cons_zero, List.set_cons_succ]
  go_wp2
  go_ret
  exact ⟨rfl, rfl⟩
set_option maxRecDepth 20000 in
set_option maxHeartbeats 4000000 in
theorem rplus_any (x y : BitVec 64) (w : World) : Calls Tryd.prog 77 #[.int .u64 ((x).toNat : Int), .int .u64 ((y).toNat : Int)] w fun e w' => e = .returned (.int .u64 ((blF x y).toNat : Int)) ∧ w' = w := by
  have f1 := sW_wrap x y
  have f2 := loRem x
  have f4 := mW_two (loW x)
  have f5 := loRem y
  have f7 := mW_wrap (mW 2#64 (loW x)) (loW y)
  have f8 := sW_wrap (sW x y) (mW (mW 2#64 (loW x)) (loW y))
  go_enter Tryd.func77, Tryd.ntmps77
  go_upto_region 1 with (fail)
  refine wp_region_lit ?_
  refine wpList_run rfl (.int .u64 ((x).toNat : Int)) (by simp [go_sem]) ?_
  simp only [Act.put, List.setIfInBounds_toArray, List.set_cons_zero, List.set_cons_succ]
  refine wpList_run rfl (.int .u64 ((y).toNat : Int)) (by simp [go_sem]) ?_
  simp only [Act.put, List.setIfInBounds_toArray, List.set_cons_zero, List.set_cons_succ]
  refine wpList_run rfl (.int .u64 ((sW x y).toNat : Int)) (by simp [go_sem, f1]) ?_
  simp only [Act.put, List.setIfInBounds_toArray, List.set_cons_zero, List.set_cons_succ]
  refine wpList_run rfl (.int .u64 ((x).toNat : Int)) (by simp [go_sem]) ?_
  simp only [Act.put, List.setIfInBounds_toArray, List.set_cons_zero, List.set_cons_succ]
  refine wpList_run rfl (.int .u64 ((loW x).toNat : Int)) (by simp [go_sem, f2]) ?_
  simp only [Act.put, List.setIfInBounds_toArray, List.set_cons_zero, List.set_cons_succ]
  refine wpList_run rfl (.int .u64 ((mW 2#64 (loW x)).toNat : Int)) (by simp [go_sem, f4]) ?_
  simp only [Act.put, List.setIfInBounds_toArray, List.set_cons_zero, List.set_cons_succ]
  refine wpList_run rfl (.int .u64 ((y).toNat : Int)) (by simp [go_sem]) ?_
  simp only [Act.put, List.setIfInBounds_toArray, List.set_cons_zero, List.set_cons_succ]
  refine wpList_run rfl (.int .u64 ((loW y).toNat : Int)) (by simp [go_sem, f5]) ?_
  simp only [Act.put, List.setIfInBounds_toArray, List.set_cons_zero, List.set_cons_succ]
  refine wpList_run rfl (.int .u64 ((mW (mW 2#64 (loW x)) (loW y)).toNat : Int)) (by simp [go_sem, f7]) ?_
  simp only [Act.put, List.setIfInBounds_toArray, List.set_cons_zero, List.set_cons_succ]
  refine wpList_run rfl (.int .u64 ((blF x y).toNat : Int)) (by simp [go_sem, f8, blF]) ?_
  simp only [Act.put, List.setIfInBounds_toArray, List.set_cons_zero, List.set_cons_succ]
  go_wp2
  go_ret
  exact ⟨rfl, rfl⟩
set_option maxHeartbeats 1000000 in
theorem mright_any (a : BitVec 64) (n : Nat) (hn : n = 32 ∨ n = 24 ∨ n = 16 ∨ n = 63) (w : World) :
    Calls Tryd.prog 46 #[.int .i64 (n : Int), .int .u64 (a.toNat : Int)] w fun e w' => e = .returned (.int .u64 ((rR n a).toNat : Int)) ∧ w' = w := by
  have n0 : (0 : Int) ≤ (n : Int) := by omega
  have n1 : (n : Int) ≤ 63 := by omega
  go_enter Tryd.func46, Tryd.ntmps46
  go_wp2_with (go_at_call 62; refine (rot_any a n hn _).mono ?_; rintro e w' ⟨rfl, rfl⟩)
  go_ret
  exact ⟨rfl, rfl⟩
set_option maxHeartbeats 1000000 in
theorem mturn_any (a : BitVec 64) (n : Nat) (hn : n = 32 ∨ n = 24 ∨ n = 16 ∨ n = 63) (w : World) :
    Calls Tryd.prog 78 #[.int .i64 (n : Int), .int .u64 (a.toNat : Int)] w fun e w' => e = .returned (.int .u64 ((rR n a).toNat : Int)) ∧ Below w.heap.size w w' := by
  have ha := a.isLt
  have r32 : bits .or .u64 ((a.toNat : Int) / 4294967296) ((a.toNat : Int) * 4294967296 % 18446744073709551616) = ((rR 32 a).toNat : Int) := rot_nat' a 32
  replace r32 := hideit r32
  have r24 : bits .or .u64 ((a.toNat : Int) / 16777216) ((a.toNat : Int) * 1099511627776 % 18446744073709551616) = ((rR 24 a).toNat : Int) := rot_nat' a 24
  replace r24 := hideit r24
  have r16 : bits .or .u64 ((a.toNat : Int) / 65536) ((a.toNat : Int) * 281474976710656 % 18446744073709551616) = ((rR 16 a).toNat : Int) := rot_nat' a 16
  replace r16 := hideit r16
  have r63 : bits .or .u64 ((a.toNat : Int) / 9223372036854775808) ((a.toNat : Int) * 2 % 18446744073709551616) = ((rR 63 a).toNat : Int) := rot_nat' a 63
  replace r63 := hideit r63
  rcases hn with rfl | rfl | rfl | rfl
  · go_enter Tryd.func78, Tryd.ntmps78
    go_wp2
    go_quiet (fail)
    go_wp2
    go_ret
    exact ⟨ret_int r32.out, below_drewN _ _⟩
  · go_enter Tryd.func78, Tryd.ntmps78
    go_wp2
    go_quiet (fail)
    go_wp2
    go_ret
    exact ⟨ret_int r24.out, below_drewN _ _⟩
  · go_enter Tryd.func78, Tryd.ntmps78
    go_wp2
    go_quiet (fail)
    go_wp2
    go_ret
    exact ⟨ret_int r16.out, below_drewN _ _⟩
  · go_enter Tryd.func78, Tryd.ntmps78
    go_wp2
    go_quiet (fail)
    go_wp2
    go_ret
    exact ⟨ret_int r63.out, below_drewN _ _⟩
/-- four words stirred -/
def st4 (a b c d : BitVec 64) : BitVec 64 × BitVec 64 × BitVec 64 × BitVec 64 :=
  let a1 := blF a b
  let d1 := rR 32 (xW d a1)
  let c1 := blF c d1
  let b1 := rR 24 (xW b c1)
  let a2 := blF a1 b1
  let d2 := rR 16 (xW d1 a2)
  let c2 := blF c1 d2
  let b2 := rR 63 (xW b1 c2)
  (a2, b2, c2, d2)
set_option maxRecDepth 20000 in
set_option maxHeartbeats 4000000 in
theorem stir_any (a b c d : BitVec 64) (w : World) :
    Calls Tryd.prog 20 #[.int .u64 ((a).toNat : Int), .int .u64 ((b).toNat : Int), .int .u64 ((c).toNat : Int), .int .u64 ((d).toNat : Int)] w fun e w' => e = .returned (.tuple #[.int .u64 ((st4 a b c d).1.toNat : Int), .int .u64 ((st4 a b c d).2.1.toNat : Int), .int .u64 ((st4 a b c d).2.2.1.toNat : Int), .int .u64 ((st4 a b c d).2.2.2.toNat : Int)]) ∧ w' = w := by
  obtain ⟨a1, ha1⟩ : ∃ p, p = blF a b := ⟨_, rfl⟩
  obtain ⟨q1, hq1⟩ : ∃ p, p = xW d a1 := ⟨_, rfl⟩
  obtain ⟨d1, hd1⟩ : ∃ p, p = rR 32 q1 := ⟨_, rfl⟩
  obtain ⟨c1, hc1⟩ : ∃ p, p = blF c d1 := ⟨_, rfl⟩
  obtain ⟨q2, hq2⟩ : ∃ p, p = xW b c1 := ⟨_, rfl⟩
  obtain ⟨b1, hb1⟩ : ∃ p, p = rR 24 q2 := ⟨_, rfl⟩
  obtain ⟨a2, ha2⟩ : ∃ p, p = blF a1 b1 := ⟨_, rfl⟩
  obtain ⟨q3, hq3⟩ : ∃ p, p = xW d1 a2 := ⟨_, rfl⟩
  obtain ⟨d2, hd2⟩ : ∃ p, p = rR 16 q3 := ⟨_, rfl⟩
  obtain ⟨c2, hc2⟩ : ∃ p, p = blF c1 d2 := ⟨_, rfl⟩
  obtain ⟨q4, hq4⟩ : ∃ p, p = xW b1 c2 := ⟨_, rfl⟩
  obtain ⟨b2, hb2⟩ : ∃ p, p = rR 63 q4 := ⟨_, rfl⟩
  have hm : st4 a b c d = (a2, b2, c2, d2) := by
    rw [hb2, hq4, hc2, hd2, hq3, ha2, hb1, hq2, hc1, hd1, hq1, ha1]
    rfl
  rw [hm]
  have f3 := xW_fact d a1
  rw [← hq1] at f3
  have f5 := xW_fact b c1
  rw [← hq2] at f5
  have f8 := xW_fact d1 a2
  rw [← hq3] at f8
  have f10 := xW_fact b1 c2
  rw [← hq4] at f10
  have s1 := hideit (blend_any a b)
  rw [← ha1] at s1
  have s2 := hideit (blend_any c d1)
  rw [← hc1] at s2
  have s3 := hideit (blend_any a1 b1)
  rw [← ha2] at s3
  have s4 := hideit (blend_any c1 d2)
  rw [← hc2] at s4
  have r1 := hideit (mright_any q1 32 (by decide))
  rw [← hd1] at r1
  have r2 := hideit (mright_any q2 24 (by decide))
  rw [← hb1] at r2
  have r3 := hideit (mright_any q3 16 (by decide))
  rw [← hd2] at r3
  have r4 := hideit (mright_any q4 63 (by decide))
  rw [← hb2] at r4
  clear hm ha1 hq1 hd1 hc1 hq2 hb1 ha2 hq3 hd2 hc2 hq4 hb2
  go_enter Tryd.func20, Tryd.ntmps20
  go_upto_region 2 with (go_at_call 45; refine (s1.out _).mono ?_; rintro e w' ⟨rfl, hw'⟩; subst hw'; clear s1)
  go_upto_region 3 with (go_at_call 46; refine (r1.out _).mono ?_; rintro e w' ⟨rfl, hw'⟩; subst hw'; clear r1)
  go_upto_region 4 with (go_at_call 45; refine (s2.out _).mono ?_; rintro e w' ⟨rfl, hw'⟩; subst hw'; clear s2)
  go_upto_region 5 with (go_at_call 46; refine (r2.out _).mono ?_; rintro e w' ⟨rfl, hw'⟩; subst hw'; clear r2)
  go_upto_region 6 with (go_at_call 45; refine (s3.out _).mono ?_; rintro e w' ⟨rfl, hw'⟩; subst hw'; clear s3)
  go_upto_region 7 with (go_at_call 46; refine (r3.out _).mono ?_; rintro e w' ⟨rfl, hw'⟩; subst hw'; clear r3)
  go_upto_region 8 with (go_at_call 45; refine (s4.out _).mono ?_; rintro e w' ⟨rfl, hw'⟩; subst hw'; clear s4)
  go_upto_region 9 with (go_at_call 46; refine (r4.out _).mono ?_; rintro e w' ⟨rfl, hw'⟩; subst hw'; clear r4)
  go_wp2
  exact bodyPost_ret (v := .tuple #[.int .u64 (a2.toNat : Int), .int .u64 (b2.toNat : Int), .int .u64 (c2.toNat : Int), .int .u64 (d2.toNat : Int)]) (by simp [results, Tryd.results20]) rfl ⟨rfl, rfl⟩
/-- .. at four places of a state -/
def rowSt (v : Nat → BitVec 64) (p0 p1 p2 p3 : Nat) (j : Nat) : BitVec 64 :=
  if j = p3 then (st4 (v p0) (v p1) (v p2) (v p3)).2.2.2 else if j = p2 then (st4 (v p0) (v p1) (v p2) (v p3)).2.2.1 else if j = p1 then (st4 (v p0) (v p1) (v p2) (v p3)).2.1 else if j = p0 then (st4 (v p0) (v p1) (v p2) (v p3)).1 else v j
def stK (v : Nat → BitVec 64) : Nat → Nat → BitVec 64
  | 0 => v
  | k + 1 => rowSt (stK v k) (plF (4 * k)) (plF (4 * k + 1)) (plF (4 * k + 2)) (plF (4 * k + 3))
end Go.Proofs.YtfbmeclpcgdmhabDoor
