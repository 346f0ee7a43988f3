/-
  Whether bytes are the same. A key made ready; a digest begun with it, a mask added to each byte.
-/
import Derived.Test.YtgjabfjkokpkiaaDoorQ13
import Derived.Laws.Bits64b
import Derived.Laws.BitsAllLaws
import Derived.LoopTactic
import Derived.Test.YtgjabfjkokpkiaaDoorQ1
import Derived.Deep.CutRange
namespace Go.Proofs.YtgjabfjkokpkiaaDoor
set_option maxRecDepth 20000
open Go.RowKit Go.BigFrame
def atF (l : Nat) (D : Nat → BitVec 8) (i : Nat) : BitVec 8 := if i < l then D i else 0#8
theorem or_nat (a b : Nat) (ha : a < 2 ^ 62) (hb : b < 2 ^ 62) : bits .or .i64 (a : Int) (b : Int) = ((a ||| b : Nat) : Int) := by
  have h1 : (BitVec.ofInt 64 (a : Int)).toNat = a := by rw [BitVec.ofInt_natCast, BitVec.toNat_ofNat]; exact Nat.mod_eq_of_lt (by omega)
  have h2 : (BitVec.ofInt 64 (b : Int)).toNat = b := by rw [BitVec.ofInt_natCast, BitVec.toNat_ofNat]; exact Nat.mod_eq_of_lt (by omega)
  have h3 : a ||| b < 2 ^ 62 := Nat.or_lt_two_pow ha hb
  show IntKind.i64.wrap ((BitVec.ofInt 64 (a : Int) ||| BitVec.ofInt 64 (b : Int)).toNat : Int) = _
  rw [BitVec.toNat_or, h1, h2, IntKind.wrap_i64]
  omega
theorem xor_nat (a b : Nat) (ha : a < 2 ^ 62) (hb : b < 2 ^ 62) : bits .xor .i64 (a : Int) (b : Int) = ((a ^^^ b : Nat) : Int) := by
  have h1 : (BitVec.ofInt 64 (a : Int)).toNat = a := by rw [BitVec.ofInt_natCast, BitVec.toNat_ofNat]; exact Nat.mod_eq_of_lt (by omega)
  have h2 : (BitVec.ofInt 64 (b : Int)).toNat = b := by rw [BitVec.ofInt_natCast, BitVec.toNat_ofNat]; exact Nat.mod_eq_of_lt (by omega)
  have h3 : a ^^^ b < 2 ^ 62 := Nat.xor_lt_two_pow ha hb
  show IntKind.i64.wrap ((BitVec.ofInt 64 (a : Int) ^^^ BitVec.ofInt 64 (b : Int)).toNat : Int) = _
  rw [BitVec.toNat_xor, h1, h2, IntKind.wrap_i64]
  omega
set_option maxRecDepth 20000 in
theorem byteAt_any (v : Value) (l : Nat) (D : Nat → BitVec 8) (i : Nat) (w : World) (h : BV v l D w) :
    Calls Tryd.prog 55 #[v, .int .i64 (i : Int)] w fun e w' => e = .returned (.int .u8 ((atF l D i).toNat : Int)) ∧ w' = w := by
  rcases h with ⟨rfl, rfl⟩ | ⟨a, cap, rfl, hc, hl⟩
  · have i0 : (0 : Int) ≤ (i : Int) := by omega
    go_enter Tryd.func55, Tryd.ntmps55
    go_wp2
    go_ret
    exact ⟨rfl, rfl⟩
  · by_cases hi : i < l
    · have i1 : ¬ (l : Int) ≤ (i : Int) := by omega
      have i2 : (i : Int) < (l : Int) := by omega
      have hcell := hl.1 i hi
      unfold atF
      rw [if_pos hi]
      go_enter Tryd.func55, Tryd.ntmps55
      go_wp2
      go_ret
      exact ⟨rfl, rfl⟩
    · have i1 : (l : Int) ≤ (i : Int) := by omega
      unfold atF
      rw [if_neg hi]
      go_enter Tryd.func55, Tryd.ntmps55
      go_wp2
      go_ret
      exact ⟨rfl, rfl⟩
def xE8 (a b : BitVec 8) : BitVec 8 := a ^^^ b
theorem xor8' (a b : BitVec 8) : bits .xor .u8 (a.toNat : Int) (b.toNat : Int) = ((xE8 a b).toNat : Int) := by
  rw [u8_xor_nat _ _ a.isLt b.isLt, xE8, BitVec.toNat_xor]
theorem xE8_zero (a b : BitVec 8) : (xE8 a b).toNat = 0 ↔ a = b := by
  unfold xE8
  constructor
  · intro h
    have h1 : a ^^^ b = 0#8 := BitVec.eq_of_toNat_eq (by rw [h]; rfl)
    have h2 : a ^^^ (a ^^^ b) = a ^^^ 0#8 := by rw [h1]
    rw [← BitVec.xor_assoc, BitVec.xor_self, BitVec.zero_xor, BitVec.xor_zero] at h2
    exact h2.symm
  · rintro rfl
    rw [BitVec.xor_self]; rfl
theorem or_zero (a b : Nat) : a ||| b = 0 ↔ a = 0 ∧ b = 0 := by
  constructor
  · intro h
    have ha : a ≤ a ||| b := Nat.left_le_or
    have hb : b ≤ a ||| b := Nat.right_le_or
    omega
  · rintro ⟨rfl, rfl⟩; rfl
theorem xor_zero (a b : Nat) : a ^^^ b = 0 ↔ a = b := by
  constructor
  · intro h
    have h2 : a ^^^ (a ^^^ b) = a ^^^ 0 := by rw [h]
    rw [← Nat.xor_assoc, Nat.xor_self, Nat.zero_xor, Nat.xor_zero] at h2
    exact h2.symm
  · rintro rfl; exact Nat.xor_self _
set_option maxRecDepth 20000 in
set_option maxHeartbeats 1000000 in
theorem equal_any (v1 v2 : Value) (l1 l2 : Nat) (D1 D2 : Nat → BitVec 8) (w : World) (h1 : BV v1 l1 D1 w) (h2 : BV v2 l2 D2 w) (hb1 : l1 ≤ 140737488351232) (hb2 : l2 ≤ 140737488351232) (r : Bool) (hr : r = true ↔ l1 = l2 ∧ ∀ j, j < l1 → D1 j = D2 j) :
    Calls Tryd.prog 36 #[v1, v2] w fun e w' => e = .returned (.bool r) ∧ w' = w := by
  obtain ⟨a1, p1, e1⟩ : ∃ a p, v1 = .slice a l1 p := by
    rcases h1 with ⟨h, h0⟩ | ⟨a, cap, h, _⟩
    · exact ⟨none, 0, by rw [h, h0]⟩
    · exact ⟨_, cap, h⟩
  obtain ⟨a2, p2, e2⟩ : ∃ a p, v2 = .slice a l2 p := by
    rcases h2 with ⟨h, h0⟩ | ⟨a, cap, h, _⟩
    · exact ⟨none, 0, by rw [h, h0]⟩
    · exact ⟨_, cap, h⟩
  subst e1 e2
  have hy1 := hideit (fun i : Nat => byteAt_any _ l1 D1 i w h1)
  have hy2 := hideit (fun i : Nat => byteAt_any _ l2 D2 i w h2)
  clear h1 h2
  have hx := xor_nat l1 l2 (by omega) (by omega)
  have hxl : l1 ^^^ l2 < 2 ^ 62 := Nat.xor_lt_two_pow (by omega) (by omega)
  have hxz := hideit (xor_zero l1 l2)
  replace hr := hideit hr
  generalize l1 ^^^ l2 = X0 at *
  rcases Nat.lt_or_ge l1 l2 with hc | hc
  · have k1 : (l1 : Int) < (l2 : Int) := by omega
    have k2 : ¬ (l2 : Int) < (l1 : Int) := by omega
    have k3 : ¬ (l2 : Int) ≤ (l1 : Int) := by omega
    have k4 : (l1 : Int) ≤ (l2 : Int) := by omega
    go_enter Tryd.func36, Tryd.ntmps36
    go_wp2
    go_loop [5, 17] (fun x i => ∃ n X : Nat, n ≤ l2 ∧ i = .int .i64 n ∧ x = .int .i64 X ∧ X < 2 ^ 62 ∧ (X = 0 ↔ l1 = l2 ∧ ∀ j, j < n → atF l1 D1 j = atF l2 D2 j)) (fun _ i => l2 - (intOf i).toNat)
    case atStart => exact ⟨0, X0, Nat.zero_le _, rfl, rfl, hxl, hxz.out.trans ⟨fun h => ⟨h, fun j hj => absurd hj (by omega)⟩, fun h => h.1⟩⟩
    case round =>
      obtain ⟨n, X, hn, rfl, rfl, hX, hz⟩ := hrel
      by_cases hlt : n < l2
      · have j1 : (n : Int) < (l2 : Int) := by omega
        replace hz := hideit hz
        have hx8 := xor8' (atF l1 D1 n) (atF l2 D2 n)
        have hz8 := hideit (xE8_zero (atF l1 D1 n) (atF l2 D2 n))
        have hlt8 : (xE8 (atF l1 D1 n) (atF l2 D2 n)).toNat < 256 := (xE8 (atF l1 D1 n) (atF l2 D2 n)).isLt
        generalize (xE8 (atF l1 D1 n) (atF l2 D2 n)).toNat = y at *
        have ho := or_nat X y hX (by omega)
        have hol : X ||| y < 2 ^ 62 := Nat.or_lt_two_pow hX (by omega)
        have hoz := hideit (or_zero X y)
        generalize X ||| y = Z at *
        go_wp2_with (go_at_call 55; first | (refine (hy1.out n).mono ?_; rintro e w1 ⟨rfl, rfl⟩; clear hy1) | (refine (hy2.out n).mono ?_; rintro e w1 ⟨rfl, rfl⟩))
        go_round
        case rel =>
          refine ⟨n + 1, Z, by omega, by go_num, rfl, hol, ?_⟩
          rw [hoz.out, hz.out, hz8.out]
          constructor
          · rintro ⟨⟨h1, h2⟩, h3⟩
            refine ⟨h1, fun j hj => ?_⟩
            rcases Nat.lt_or_ge j n with h | h
            · exact h2 j h
            · rw [show j = n by omega]; exact h3
          · rintro ⟨h1, h2⟩
            exact ⟨⟨h1, fun j hj => h2 j (by omega)⟩, h2 n (by omega)⟩
        case measure => simp [intOf]; omega
      · have j1 : ¬ (n : Int) < (l2 : Int) := by omega
        have hv : ((X : Int) == 0) = r := by
          have : (X = 0 ↔ r = true) := hz.trans (Iff.trans ⟨fun ⟨a, b⟩ => ⟨a, fun j hj => by have := b j (by omega); unfold atF at this; rwa [if_pos hj, if_pos (by omega)] at this⟩, fun ⟨a, b⟩ => ⟨a, fun j hj => by unfold atF; subst a; by_cases h : j < l1 <;> simp [h]; exact b j h⟩⟩ hr.out.symm)
          cases r <;> simp_all <;> omega
        clear hz hr
        go_wp2
        go_ret
        exact ⟨rfl, rfl⟩
  · have k1 : ¬ (l1 : Int) < (l2 : Int) := by omega
    have k3 : (l2 : Int) ≤ (l1 : Int) := by omega
    go_enter Tryd.func36, Tryd.ntmps36
    go_wp2
    go_loop [5, 17] (fun x i => ∃ n X : Nat, n ≤ l1 ∧ i = .int .i64 n ∧ x = .int .i64 X ∧ X < 2 ^ 62 ∧ (X = 0 ↔ l1 = l2 ∧ ∀ j, j < n → atF l1 D1 j = atF l2 D2 j)) (fun _ i => l1 - (intOf i).toNat)
    case atStart => exact ⟨0, X0, Nat.zero_le _, rfl, rfl, hxl, hxz.out.trans ⟨fun h => ⟨h, fun j hj => absurd hj (by omega)⟩, fun h => h.1⟩⟩
    case round =>
      obtain ⟨n, X, hn, rfl, rfl, hX, hz⟩ := hrel
      by_cases hlt : n < l1
      · have j1 : (n : Int) < (l1 : Int) := by omega
        replace hz := hideit hz
        have hx8 := xor8' (atF l1 D1 n) (atF l2 D2 n)
        have hz8 := hideit (xE8_zero (atF l1 D1 n) (atF l2 D2 n))
        have hlt8 : (xE8 (atF l1 D1 n) (atF l2 D2 n)).toNat < 256 := (xE8 (atF l1 D1 n) (atF l2 D2 n)).isLt
        generalize (xE8 (atF l1 D1 n) (atF l2 D2 n)).toNat = y at *
        have ho := or_nat X y hX (by omega)
        have hol : X ||| y < 2 ^ 62 := Nat.or_lt_two_pow hX (by omega)
        have hoz := hideit (or_zero X y)
        generalize X ||| y = Z at *
        go_wp2_with (go_at_call 55; first | (refine (hy1.out n).mono ?_; rintro e w1 ⟨rfl, rfl⟩; clear hy1) | (refine (hy2.out n).mono ?_; rintro e w1 ⟨rfl, rfl⟩))
        go_round
        case rel =>
          refine ⟨n + 1, Z, by omega, by go_num, rfl, hol, ?_⟩
          rw [hoz.out, hz.out, hz8.out]
          constructor
          · rintro ⟨⟨h1, h2⟩, h3⟩
            refine ⟨h1, fun j hj => ?_⟩
            rcases Nat.lt_or_ge j n with h | h
            · exact h2 j h
            · rw [show j = n by omega]; exact h3
          · rintro ⟨h1, h2⟩
            exact ⟨⟨h1, fun j hj => h2 j (by omega)⟩, h2 n (by omega)⟩
        case measure => simp [intOf]; omega
      · have j1 : ¬ (n : Int) < (l1 : Int) := by omega
        have hv : ((X : Int) == 0) = r := by
          have : (X = 0 ↔ r = true) := hz.trans (Iff.trans ⟨fun ⟨a, b⟩ => ⟨a, fun j hj => by have := b j (by omega); unfold atF at this; rwa [if_pos hj, if_pos (by omega)] at this⟩, fun ⟨a, b⟩ => ⟨a, fun j hj => by unfold atF; subst a; by_cases h : j < l1 <;> simp [h]; exact b j h⟩⟩ hr.out.symm)
          cases r <;> simp_all <;> omega
        clear hz hr
        go_wp2
        go_ret
        exact ⟨rfl, rfl⟩
end Go.Proofs.YtgjabfjkokpkiaaDoor
namespace Go.Proofs.YtgjabfjkokpkiaaDoor
set_option maxRecDepth 20000
open Go.RowKit Go.BigFrame
def readyF (l : Nat) (key : Nat → BitVec 8) (j : Nat) : BitVec 8 := if 64 < l then (if j < 32 then shaF key l j else 0#8) else if j < l then key j else 0#8
def maskF (r : Nat → BitVec 8) (x : BitVec 8) (j : Nat) : BitVec 8 := xE8 (r j) x
theorem RowAt.lie {b n : Nat} {g : Nat → Value} {w : World} (h : RowAt b n g w) (m : Nat) (hm : m ≤ n) : LieAt ⟨b, 0, none⟩ m g w :=
  ⟨fun j hj => by
    have hadd : (⟨b, 0, none⟩ : Addr).add j = ⟨b, j, none⟩ := by unfold Addr.add; split <;> simp_all
    rw [hadd]
    exact h.1 j (by omega), h.2.2⟩
theorem cutR23 (b : Nat) (X : World) : Sem.run Tryd.prog (Instr.sliceAt 31 (.pointer (some ⟨b, 0, none⟩)) none none none) X = .ok (.slice (some ⟨b, 0, none⟩) 32 32) X := by
  kernel_rfl
theorem cutR54 (b : Nat) (X : World) : Sem.run Tryd.prog (Instr.sliceAt 23 (.pointer (some ⟨b, 0, none⟩)) none none none) X = .ok (.slice (some ⟨b, 0, none⟩) 64 64) X := by
  kernel_rfl
set_option maxRecDepth 20000 in
set_option maxHeartbeats 1000000 in
theorem ready_some (a : Addr) (l cap : Nat) (key : Nat → BitVec 8) (w : World) (hcap : l ≤ cap) (hb : LieAt a l (yv key) w) (hC : TabC w) (hl : l ≤ 140737488351232) :
    Calls Tryd.prog 68 #[.slice (some a) l cap] w fun e w' => e = .returned (.agg (row 64 (yv (readyF l key))).toArray) ∧ Below w.heap.size w w' := by
  have hz := zero29
  have hz2 := zero24
  obtain ⟨R, hR⟩ : ∃ R, R = readyF l key := ⟨_, rfl⟩
  rw [← hR]
  replace hR := hideit hR
  have HR0 := hideit (RowAt.new w 64 (yv fun _ => 0#8) 23)
  have HE0 : Ext w (w.alloc (.cells (row 64 (yv fun _ => 0#8)).toArray 23)) := (Below.refl _ _).alloc (Nat.le_refl _) _
  have HR1 := hideit (RowAt.new (w.alloc (.cells (row 64 (yv fun _ => 0#8)).toArray 23)) 64 (yv fun _ => 0#8) 23)
  have HE1 : Ext w ((w.alloc (.cells (row 64 (yv fun _ => 0#8)).toArray 23)).alloc (.cells (row 64 (yv fun _ => 0#8)).toArray 23)) := Ext.trans HE0 ((Below.refl _ _).alloc (Nat.le_refl _) _)
  have HR2 := hideit (RowAt.alloc HR0.out (.cells (row 64 (yv fun _ => 0#8)).toArray 23))
  have hsz : (w.alloc (.cells (row 64 (yv fun _ => 0#8)).toArray 23)).heap.size = w.heap.size + 1 := by simp
  rw [hsz] at HR1
  replace HE1 := hideit HE1
  clear HE0 HR0 hsz
  replace hC := hideit hC
  replace hb := hideit hb
  by_cases h64 : 64 < l
  · have i64 : (64 : Int) < (l : Int) := by omega
    have hs := shasum_any l cap key a _ (hb.out.carry HE1.out) hcap (by omega) (hC.out.ext HE1.out)
    obtain ⟨D, hD⟩ : ∃ D, D = shaF key l := ⟨_, rfl⟩
    rw [← hD] at hs
    replace hD := hideit hD
    replace hs := hideit hs
    go_enter Tryd.func68, Tryd.ntmps68
    go_upto_region 3 with (fail)
    generalize (w.alloc (.cells (row 64 (yv fun _ => 0#8)).toArray 23)).alloc (.cells (row 64 (yv fun _ => 0#8)).toArray 23) = w2 at *
    refine wp_region_lit ?_
    refine wpList_run rfl (.slice (some a) l cap) (by simp [go_sem]) ?_
    simp only [zp0, zp1, zp2, zp3]
    refine wpList_call rfl (by simp [go_sem]) (hs.out.mono ?_)
    rintro e w3 ⟨rfl, hw3⟩
    refine ⟨_, rfl, ?_⟩
    simp only [zp0, zp1, zp2, zp3]
    have HR3 := hideit (HR1.out.carry hw3)
    have HQ3 := hideit (HR2.out.carry hw3)
    have HE3 := hideit (Ext.trans HE1.out hw3)
    clear hs hw3 HR1 HR2 HE1
    have HN := hideit (RowAt.new w3 32 (yv fun _ => 0#8) 31)
    have hE4 : Ext w3 (w3.alloc (.cells (row 32 (yv fun _ => 0#8)).toArray 31)) := (Below.refl _ _).alloc (Nat.le_refl _) _
    have HR4 := hideit (HR3.out.carry hE4)
    have HQ4 := hideit (HQ3.out.carry hE4)
    have HE4 := hideit (Ext.trans HE3.out hE4)
    have hlt : w.heap.size + 1 < w3.heap.size := HR3.out.2.2
    clear hE4 HE3 HR3 HQ3
    refine wpList_to rfl (.pointer (some ⟨w3.heap.size, 0, none⟩)) (w3.alloc (.cells (row 32 (yv fun _ => 0#8)).toArray 31)) (by simp [go_sem, hz2]) ?_
    simp only [zp0, zp1, zp2, zp3]
    refine wpList_store_mid rfl 31 (.tmp 4) (.tmp 9) rfl _ 0 (row 32 (yv D)).toArray rfl rfl (by rw [row_size]; exact HN.out.there) (by rw [row_size]; exact info24) (row_one fun _ _ => rfl) ?_
    have HN2 := hideit (HN.out.cells (g' := yv D))
    have HR5 := hideit (HR4.out.cellsOther (c := w3.heap.size) (by omega) (row 32 (yv D)) 0)
    have HQ5 := hideit (HQ4.out.cellsOther (c := w3.heap.size) (by omega) (row 32 (yv D)) 0)
    have HE5 := hideit (below_setCells w3.heap.size (by omega) (row 32 (yv D)) 0 _ HE4.out)
    simp only at HN2 HR5 HQ5 HE5
    generalize ((w3.alloc (.cells (row 32 (yv fun _ => 0#8)).toArray 31)).setCells w3.heap.size 0 (row 32 (yv D))) = w5 at *
    clear HN HR4 HQ4 HE4
    simp only [Act.put]
    have c23 := cutR23
    have c54 := cutR54
    go_upto_region 5 with (fail)
    refine wp_region_lit ?_
    refine wpList_run rfl (.slice (some ⟨w.heap.size + 1, 0, none⟩) 64 64) (by simp [go_sem, c54]) ?_
    refine wpList_run rfl (.slice (some ⟨w3.heap.size, 0, none⟩) 32 32) (by simp [go_sem]) ?_
    simp only [zp0, zp1, zp2, zp3]
    refine wpList_copy_row rfl (.tmp 11) (.tmp 12) 22 22 rfl 5 Tryd.underlying22 info5 (w.heap.size + 1) 64 (yv fun _ => 0#8) HR5.out 0 64 64 ⟨w3.heap.size, 0, none⟩ 32 32 rfl rfl 32 (yv D) (by decide) (fun j hj => (HN2.out.lie 32 (by omega)).1 j hj) (by omega) (fun _ _ => rfl) ?_
    have HR6 : RowAt (w.heap.size + 1) 64 (yv R) (w5.setCells (w.heap.size + 1) 0 (row 32 (yv D))) := (HR5.out.part 0 32 (yv D) (by omega)).congr fun j hj => by
      rw [hR.out, hD.out]
      simp only [yv, readyF, if_pos h64, Nat.sub_zero]
      by_cases h : j < 32
      · rw [if_pos (by omega), if_pos h]
      · rw [if_neg (by omega), if_neg h]
    have HQ6 := hideit (HQ5.out.cellsOther (c := w.heap.size + 1) (by omega) (row 32 (yv D)) 0)
    have HE6 := hideit (below_setCells (w.heap.size + 1) (by omega) (row 32 (yv D)) 0 _ HE5.out)
    replace HR6 := hideit HR6
    generalize w5.setCells (w.heap.size + 1) 0 (row 32 (yv D)) = w6 at *
    clear HR5 HQ5 HE5 HN2
    simp only [zp0, zp1, zp2, zp3]
    go_wp2_with (first | (refine wpList_load_mid rfl 23 (.tmp 3) rfl _ 0 rfl (row 64 (yv R)) _ HR6.out.range Tryd.underlying23 rfl (by rw [row_length]; exact info29) ?_) | (refine wpList_store_mid rfl 23 (.tmp 2) (.tmp 14) rfl _ 0 (row 64 (yv R)).toArray rfl rfl (by rw [row_size]; exact HQ6.out.there) (by rw [row_size]; exact info29) (row_one fun _ _ => rfl) ?_))
    exact bodyPost_ret (ret_row Tryd.results68 rfl (HQ6.out.cells (g' := yv R)) Tryd.underlying23 rfl info29) rfl ⟨rfl, below_setCells _ (Nat.le_refl _) _ _ _ HE6.out⟩
  · have i64 : ¬ (64 : Int) < (l : Int) := by omega
    have c54 := cutR54
    go_enter Tryd.func68, Tryd.ntmps68
    go_upto_region 5 with (fail)
    have HL2 := hideit (hb.out.carry HE1.out)
    generalize (w.alloc (.cells (row 64 (yv fun _ => 0#8)).toArray 23)).alloc (.cells (row 64 (yv fun _ => 0#8)).toArray 23) = w5 at *
    refine wp_region_lit ?_
    refine wpList_run rfl (.slice (some ⟨w.heap.size + 1, 0, none⟩) 64 64) (by simp [go_sem, c54]) ?_
    refine wpList_run rfl (.slice (some a) l cap) (by simp [go_sem]) ?_
    simp only [zp0, zp1, zp2, zp3]
    refine wpList_copy_row rfl (.tmp 11) (.tmp 12) 22 22 rfl 5 Tryd.underlying22 info5 (w.heap.size + 1) 64 (yv fun _ => 0#8) HR1.out 0 64 64 a l cap rfl rfl l (yv key) (Nat.min_eq_left (by omega : l ≤ 64)).symm (fun j hj => HL2.out.1 j hj) (by omega) (fun _ _ => rfl) ?_
    have HR6 : RowAt (w.heap.size + 1) 64 (yv R) (w5.setCells (w.heap.size + 1) 0 (row l (yv key))) := (HR1.out.part 0 l (yv key) (by omega)).congr fun j hj => by
      rw [hR.out]
      simp only [yv, readyF, if_neg h64, Nat.sub_zero]
      by_cases h : j < l
      · rw [if_pos (by omega), if_pos h]
      · rw [if_neg (by omega), if_neg h]
    have HQ6 := hideit (HR2.out.cellsOther (c := w.heap.size + 1) (by omega) (row l (yv key)) 0)
    have HE6 := hideit (below_setCells (w.heap.size + 1) (by omega) (row l (yv key)) 0 _ HE1.out)
    replace HR6 := hideit HR6
    generalize w5.setCells (w.heap.size + 1) 0 (row l (yv key)) = w6 at *
    clear HR1 HR2 HE1 HL2
    simp only [zp0, zp1, zp2, zp3]
    go_wp2_with (first | (refine wpList_load_mid rfl 23 (.tmp 3) rfl _ 0 rfl (row 64 (yv R)) _ HR6.out.range Tryd.underlying23 rfl (by rw [row_length]; exact info29) ?_) | (refine wpList_store_mid rfl 23 (.tmp 2) (.tmp 14) rfl _ 0 (row 64 (yv R)).toArray rfl rfl (by rw [row_size]; exact HQ6.out.there) (by rw [row_size]; exact info29) (row_one fun _ _ => rfl) ?_))
    exact bodyPost_ret (ret_row Tryd.results68 rfl (HQ6.out.cells (g' := yv R)) Tryd.underlying23 rfl info29) rfl ⟨rfl, below_setCells _ (Nat.le_refl _) _ _ _ HE6.out⟩
theorem copy_none (b : Nat) (X : World) : (Builtin.copy_ #[22, 22] 3 #[.slice (some ⟨b, 0, none⟩) 64 64, .slice none 0 0]).run Tryd.prog X = .ok (.int .i64 0) X := by kernel_rfl
set_option maxRecDepth 20000 in
set_option maxHeartbeats 1000000 in
theorem ready_none (key : Nat → BitVec 8) (w : World) :
    Calls Tryd.prog 68 #[.slice none 0 0] w fun e w' => e = .returned (.agg (row 64 (yv (readyF 0 key))).toArray) ∧ Below w.heap.size w w' := by
  have hz := zero29
  have hR : readyF 0 key = fun _ => 0#8 := by
    funext j
    unfold readyF
    rw [if_neg (by omega), if_neg (by omega)]
  rw [hR]
  clear hR
  have HR0 := hideit (RowAt.new w 64 (yv fun _ => 0#8) 23)
  have HE0 : Ext w (w.alloc (.cells (row 64 (yv fun _ => 0#8)).toArray 23)) := (Below.refl _ _).alloc (Nat.le_refl _) _
  have HR1 := hideit (RowAt.new (w.alloc (.cells (row 64 (yv fun _ => 0#8)).toArray 23)) 64 (yv fun _ => 0#8) 23)
  have HE1 : Ext w ((w.alloc (.cells (row 64 (yv fun _ => 0#8)).toArray 23)).alloc (.cells (row 64 (yv fun _ => 0#8)).toArray 23)) := Ext.trans HE0 ((Below.refl _ _).alloc (Nat.le_refl _) _)
  have HR2 := hideit (RowAt.alloc HR0.out (.cells (row 64 (yv fun _ => 0#8)).toArray 23))
  have hsz : (w.alloc (.cells (row 64 (yv fun _ => 0#8)).toArray 23)).heap.size = w.heap.size + 1 := by simp
  rw [hsz] at HR1
  replace HE1 := hideit HE1
  clear HE0 HR0 hsz
  have c54 := cutR54
  have cn := copy_none
  go_enter Tryd.func68, Tryd.ntmps68
  go_upto_region 6 with (fail)
  generalize (w.alloc (.cells (row 64 (yv fun _ => 0#8)).toArray 23)).alloc (.cells (row 64 (yv fun _ => 0#8)).toArray 23) = w5 at *
  go_wp2_with (first | (refine wpList_load_mid rfl 23 (.tmp 3) rfl _ 0 rfl (row 64 (yv fun _ => 0#8)) _ HR1.out.range Tryd.underlying23 rfl (by rw [row_length]; exact info29) ?_) | (refine wpList_store_mid rfl 23 (.tmp 2) (.tmp 14) rfl _ 0 (row 64 (yv fun _ => 0#8)).toArray rfl rfl (by rw [row_size]; exact HR2.out.there) (by rw [row_size]; exact info29) (row_one fun _ _ => rfl) ?_))
  exact bodyPost_ret (ret_row Tryd.results68 rfl (HR2.out.cells (g' := yv fun _ => 0#8)) Tryd.underlying23 rfl info29) rfl ⟨rfl, below_setCells _ (Nat.le_refl _) _ _ _ HE1.out⟩
theorem ready_any (v : Value) (l : Nat) (key : Nat → BitVec 8) (w : World) (h : BV v l key w) (hC : TabC w) (hl : l ≤ 140737488351232) :
    Calls Tryd.prog 68 #[v] w fun e w' => e = .returned (.agg (row 64 (yv (readyF l key))).toArray) ∧ Below w.heap.size w w' := by
  rcases h with ⟨rfl, rfl⟩ | ⟨a, cap, rfl, h2, h3⟩
  · exact ready_none key w
  · exact ready_some a l cap key w h2 h3 hC hl
end Go.Proofs.YtgjabfjkokpkiaaDoor
