/-
  The digest of a kind and of parts behind it.
-/
import Derived.Test.YtapmheocllicnaaDoorBV
import Derived.Test.YtapmheocllicnaaDoorSumOf
import Derived.Test.YtapmheocllicnaaDoorOwnE
import Derived.Deep.CutRange
namespace Go.Proofs.YtapmheocllicnaaDoor
open Go.RowKit Go.BigFrame
def sumL (ls : Nat → Nat) : Nat → Nat
  | 0 => 0
  | n + 1 => sumL ls n + ls n
theorem sumL_mono (ls : Nat → Nat) (i n : Nat) (h : i ≤ n) : sumL ls i ≤ sumL ls n := by
  induction n with
  | zero =>
    obtain rfl : i = 0 := by omega
    exact Nat.le_refl _
  | succ n ih =>
    rcases Nat.lt_or_ge n i with h1 | h1
    · obtain rfl : i = n + 1 := by omega
      exact Nat.le_refl _
    · have := ih h1
      simp only [sumL]
      omega
/-- parts one behind the other, behind what came -/
def joinF (m : Nat → BitVec 8) (n : Nat) (ls : Nat → Nat) (bs : Nat → Nat → BitVec 8) : Nat → Nat → BitVec 8
  | 0 => m
  | i + 1 => catF (joinF m n ls bs i) (n + sumL ls i) (bs i)
/-- a list of parts -/
def Parts (v : Value) (n : Nat) (us : Nat → Value) (ls : Nat → Nat) (bs : Nat → Nat → BitVec 8) (w : World) : Prop :=
  ((v = .slice none 0 0 ∧ n = 0) ∨ ∃ a cap, v = .slice (some a) n cap ∧ n ≤ cap ∧ LieAt a n us w) ∧ ∀ i, i < n → BV (us i) (ls i) (bs i) w
theorem Parts.ext {v : Value} {n : Nat} {us : Nat → Value} {ls : Nat → Nat} {bs : Nat → Nat → BitVec 8} {w X : World} (h : Parts v n us ls bs w) (k : Ext w X) : Parts v n us ls bs X := by
  refine ⟨?_, fun i hi => (h.2 i hi).ext k⟩
  rcases h.1 with h1 | ⟨a, cap, h1, h2, h3⟩
  · exact .inl h1
  · exact .inr ⟨a, cap, h1, h2, h3.carry k⟩
theorem write_zero (c cap : Nat) (a : Addr) (w : World) : Calls Tryd.prog 41 #[.pointer (some ⟨c, 0, none⟩), .slice (some a) 0 cap] w fun e w' => e = .returned (.tuple #[]) ∧ w' = w := by
  go_enter Tryd.func41, Tryd.ntmps41
  go_wp2
  go_loopw [1] (fun v wr => v = .slice (some a) 0 cap ∧ wr = w) (fun _ _ => 0)
  case atStart => exact ⟨rfl, rfl⟩
  case round =>
    obtain ⟨rfl, rfl⟩ := hrel
    go_wp2
    exact bodyPost_end (v := .tuple #[]) (by simp [results, Tryd.results41]) rfl ⟨rfl, rfl⟩
/-- bytes are written, wherever they lay in the world W -/
theorem writeV (c n l : Nat) (m b : Nat → BitVec 8) (u : Value) (W w : World) (hW : BV u l b W) (hE : Ext W w) (h : HashOf c m n w) (hC : TabC w) (hc : W.heap.size ≤ c) (hc0 : c ≠ 0) (hN : n + l < 4611686018427387904) :
    Calls Tryd.prog 41 #[.pointer (some ⟨c, 0, none⟩), u] w fun e w' => e = .returned (.tuple #[]) ∧ HashOf c (catF m n b) (n + l) w' ∧ But c w w' := by
  rcases hW with ⟨rfl, h0⟩ | ⟨a, cap, rfl, h2, h3⟩
  · refine (write_none c w).mono fun e w' hh => ⟨hh.1, ?_⟩
    obtain ⟨_, rfl⟩ := hh
    subst h0
    exact ⟨h.congr fun j hj => by unfold catF; rw [if_pos hj], But.refl _ _⟩
  · have h4 := h3.carry hE
    have := h3.2
    exact write_any c n l cap m b a w h hC h4 h2 (by omega) hc0 hN
theorem Parts.form {v : Value} {n : Nat} {us : Nat → Value} {ls : Nat → Nat} {bs : Nat → Nat → BitVec 8} {w : World} (h : Parts v n us ls bs w) : ∃ ov cap, v = .slice ov n cap := by
  rcases h.1 with ⟨h, h0⟩ | ⟨a, cap, h, _⟩
  · exact ⟨none, 0, by rw [h, h0]⟩
  · exact ⟨_, cap, h⟩
/-- how a digest stands on its way -/
structure DS (w : World) (c : Nat) (m : Nat → BitVec 8) (n : Nat) (X : World) : Prop where
  ext : Ext w X
  res : RowAt w.heap.size 32 (yv fun _ => 0#8) X
  hash : HashOf c m n X
set_option maxRecDepth 20000 in
set_option maxHeartbeats 2000000 in
theorem tdig_any (kd : BitVec 8) (k : Nat) (v : Value) (us : Nat → Value) (ls : Nat → Nat) (bs : Nat → Nat → BitVec 8) (w : World) (hP : Parts v k us ls bs w) (hC : TabC w) (hk : k ≤ 140737488351232) (hN : 1 + sumL ls k < 1152921504606846976) :
    Calls Tryd.prog 30 #[.int .u8 (kd.toNat : Int), v] w fun e w' => e = .returned (.agg (row 32 (yv (shaF (joinF (fun _ => kd) 1 ls bs k) (1 + sumL ls k)))).toArray) ∧ Ext w w' := by
  obtain ⟨ov, cap, rfl⟩ := hP.form
  obtain ⟨R, hR⟩ : ∃ R, R = shaF (joinF (fun _ => kd) 1 ls bs k) (1 + sumL ls k) := ⟨_, rfl⟩
  rw [← hR]
  replace hR := hideit hR
  have hz := zero24
  have HR0 := hideit (RowAt.new w 32 (yv fun _ => 0#8) 25)
  have HE0 : Ext w (w.alloc (.cells (row 32 (yv fun _ => 0#8)).toArray 25)) := (Below.refl _ _).alloc (Nat.le_refl _) _
  replace HE0 := hideit HE0
  replace hC := hideit hC
  replace hP := hideit hP
  replace hN := hideit hN
  obtain ⟨kx, hkx⟩ : ∃ kx : Int, kx = (kd.toNat : Int) := ⟨_, rfl⟩
  rw [← hkx]
  replace hkx := hideit hkx
  go_enter Tryd.func30, Tryd.ntmps30
  go_upto_region 2 with (go_at_call 40; refine (new_any _).mono ?_; rintro e w2 ⟨c, hc, rfl, hH, hE⟩; have HH := hideit hH; have HE := hideit (Ext.trans HE0.out hE); have HR1 := hideit (HR0.out.carry hE); clear hH hE HR0 HE0)
  have hsz : w.heap.size + 1 ≤ c := by simpa using hc
  have hc0 : c ≠ 0 := by omega
  have HO : HashOf c (fun _ => 0#8) 0 w2 := by
    unfold HashOf
    rw [pend_zero]
    exact HH.out
  have hcl : c < w2.heap.size := HO.2.2
  replace HO := hideit HO
  clear HH hc
  refine wp_region_lit ?_
  refine wpList_run rfl (.pointer (some ⟨c, 0, none⟩)) (by simp [go_sem]) ?_
  simp only [Act.put, List.setIfInBounds_toArray, List.set_cons_zero, List.set_cons_succ]
  refine wpList_run rfl (.int .u8 kx) (by simp [go_sem]) ?_
  simp only [Act.put, List.setIfInBounds_toArray, List.set_cons_zero, List.set_cons_succ]
  refine wpList_to rfl (.slice (some ⟨w2.heap.size, 0, none⟩) 1 1) (w2.alloc (.cells #[.int .u8 kx] 5)) (by simp [go_sem]) ?_
  simp only [Act.put, List.setIfInBounds_toArray, List.set_cons_zero, List.set_cons_succ]
  have hE3 : Ext w2 (w2.alloc (.cells #[.int .u8 kx] 5)) := (Below.refl _ _).alloc (Nat.le_refl _) _
  have hl1 := lie1 w2 kx kd hkx.out
  have hwq := write_any c 0 1 1 (fun _ => 0#8) (fun _ => kd) ⟨w2.heap.size, 0, none⟩ _ (RowAt.carry HO.out hE3) ((hC.out.ext HE.out).ext hE3) hl1 (Nat.le_refl _) (by show w2.heap.size ≠ c; omega) hc0 (by decide)
  have HE4 := hideit (Ext.trans HE.out hE3)
  have HR4 := hideit (HR1.out.carry hE3)
  clear hl1 hE3 HE HR1 HO
  generalize w2.alloc (.cells #[.int .u8 kx] 5) = w3 at *
  refine wpList_call rfl (by simp [go_sem]) (hwq.mono ?_)
  rintro e w4 ⟨rfl, h4, hB4⟩
  refine ⟨_, rfl, ?_⟩
  simp only [Act.put, List.setIfInBounds_toArray, List.set_cons_zero, List.set_cons_succ]
  have HD0 : DS w c (joinF (fun _ => kd) 1 ls bs 0) (1 + sumL ls 0) w4 := ⟨Ext.but HE4.out hB4 (by omega), HR4.out.but hB4 (by omega), by
    have : (1 + sumL ls 0) = 0 + 1 := rfl
    rw [this]
    exact h4.congr fun j hj => by unfold catF joinF; rw [if_neg (by omega)]⟩
  replace HD0 := hideit HD0
  clear hwq HE4 HR4 h4 hB4
  have hs1 : w.heap.size ≤ c := by omega
  have hs3 : w.heap.size ≠ c := by omega
  clear hsz
  go_wp2
  go_loopw [15] (fun iv wr => ∃ i : Nat, i ≤ k ∧ iv = .int .i64 (i : Int) ∧ DS w c (joinF (fun _ => kd) 1 ls bs i) (1 + sumL ls i) wr) (fun iv _ => k - (intOf iv).toNat)
  case atStart => exact ⟨0, by omega, rfl, HD0.out⟩
  case round =>
    clear HD0
    obtain ⟨i, hi, rfl, hT⟩ := hrel
    have HT := hideit hT
    clear hT
    by_cases hlt : i < k
    · have i0 : (0 : Int) ≤ (i : Int) := by omega
      have i1 : (i : Int) < (k : Int) := by omega
      obtain ⟨a, rfl, hcell⟩ : ∃ a, ov = some a ∧ wr.cell? (a.add i) = some (us i) := by
        rcases hP.out.1 with ⟨h, h0⟩ | ⟨a, cap', h, _, h3⟩
        · omega
        · injection h with e1 e2 e3
          exact ⟨a, e1, (h3.carry HT.out.ext).1 i hlt⟩
      have hT1 := hideit (sumL_mono ls (i + 1) k (by omega))
      have hwp := hideit (writeV c (1 + sumL ls i) (ls i) (joinF (fun _ => kd) 1 ls bs i) (bs i) (us i) w wr (hP.out.2 i hlt) HT.out.ext HT.out.hash (hC.out.ext HT.out.ext) hs1 hc0 (by have := hT1.out; have := hN.out; simp only [sumL] at *; omega))
      go_upto_region 7 with (go_at_call 41; refine hwp.out.mono ?_; rintro e w7 ⟨rfl, h7, hB7⟩; have HT7 : DS w c (joinF (fun _ => kd) 1 ls bs (i + 1)) (1 + sumL ls (i + 1)) w7 := ⟨Ext.but HT.out.ext hB7 hs1, HT.out.res.but hB7 hs3, by rw [show 1 + sumL ls (i + 1) = 1 + sumL ls i + ls i by simp only [sumL]; omega]; exact h7⟩; replace HT7 := hideit HT7; clear h7 hB7 HT hwp)
      go_wp2
      exact ⟨⟨i + 1, by omega, by go_num, HT7.out⟩, by simp [intOf]; omega⟩
    · obtain rfl : i = k := by omega
      have i1 : ¬ (i : Int) < (i : Int) := by omega
      have hsm := sum_any c (1 + sumL ls i) (joinF (fun _ => kd) 1 ls bs i) wr HT.out.hash (hC.out.ext HT.out.ext) hN.out
      rw [← hR.out] at hsm
      replace hsm := hideit hsm
      go_upto_region 8 with (fail)
      refine wp_region_lit ?_
      refine wpList_run rfl (.pointer (some ⟨c, 0, none⟩)) (by simp [go_sem]) ?_
      simp only [Act.put, List.setIfInBounds_toArray, List.set_cons_zero, List.set_cons_succ]
      refine wpList_call rfl (by simp [go_sem]) (hsm.out.mono ?_)
      rintro e w6 ⟨rfl, hw6⟩
      refine ⟨_, rfl, ?_⟩
      simp only [Act.put, List.setIfInBounds_toArray, List.set_cons_zero, List.set_cons_succ]
      have HR6 := hideit (HT.out.res.carry hw6)
      have HE6 := hideit (Ext.trans HT.out.ext hw6)
      clear hsm HT hw6
      refine wpList_store_mid rfl 25 (.tmp 4) (.tmp 24) rfl _ 0 (row 32 (yv R)).toArray rfl rfl (by rw [row_size]; exact HR6.out.there) (by rw [row_size]; exact info24) (row_one fun _ _ => rfl) ?_
      go_wp2
      exact bodyPost_ret (ret_row Tryd.results30 rfl (HR6.out.cells (g' := yv R)) Tryd.underlying25 rfl info24) rfl ⟨rfl, below_setCells _ (Nat.le_refl _) _ _ _ HE6.out⟩
end Go.Proofs.YtapmheocllicnaaDoor
