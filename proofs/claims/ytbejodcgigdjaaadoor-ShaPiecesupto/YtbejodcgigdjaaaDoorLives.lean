/-
  lives: what must come of every program, comes.
-/
import Derived.Test.YtbejodcgigdjaaaDoorSumOf
import Derived.Test.YtbejodcgigdjaaaDoorEql
import Derived.Lib.SlBytesConst
namespace Go.Proofs.YtbejodcgigdjaaaDoor
open Go.RowKit Go.BigFrame
theorem sz5 : ∀ w, (sizeOf 5).run Tryd.prog w = .ok 1 w := fun w => by kernel_rfl
theorem sz27 : ∀ w, (sizeOf 27).run Tryd.prog w = .ok 1 w := fun w => by kernel_rfl
theorem eq24 (f : Nat → BitVec 8) (w : World) : (binOp .eql 24 (.agg (row 32 (yv f)).toArray) (.agg (row 32 (yv f)).toArray)).run Tryd.prog w = .ok (.bool true) w := run_eql_refl 24 5 32 .u8 Tryd.underlying24 Tryd.underlying5 sz5 _ w
theorem eq28 (f : Nat → BitVec 32) (w : World) : (binOp .eql 28 (.agg (row 8 (wv f)).toArray) (.agg (row 8 (wv f)).toArray)).run Tryd.prog w = .ok (.bool true) w := run_eql_refl 28 27 8 .u32 Tryd.underlying28 Tryd.underlying27 sz27 _ w
/-- bytes that lie in a block just made -/
theorem lie_new (w : World) (n : Nat) (C : Array Value) (t : TypeId) (fz : Nat × Nat) (b : Nat → BitVec 8) (h : ∀ j, j < n → C[j]? = some (yv b j)) : LieAt ⟨w.heap.size, 0, none⟩ n (yv b) (w.alloc (.cells C t fz)) :=
  ⟨fun j hj => by
    have h1 : (w.alloc (.cells C t fz)).cell? ⟨w.heap.size, j, none⟩ = C[j]? := by
      have h2 : (w.alloc (.cells C t fz)).heap[w.heap.size]? = some (.cells C t fz) := by
        show (w.heap.push (.cells C t fz))[w.heap.size]? = _
        simp
      unfold World.cell?
      rw [h2]
      rfl
    unfold Addr.add
    by_cases e : j = 0
    · subst e
      rw [if_pos rfl, h1]
      exact h 0 hj
    · rw [if_neg e]
      show (w.alloc (.cells C t fz)).cell? ⟨w.heap.size, 0 + j, none⟩ = _
      rw [Nat.zero_add, h1]
      exact h j hj, by simp⟩
theorem mark_const (w : World) (C : Array Value) (n : Nat) : (convert 22 22 (.slice (some ⟨w.heap.size, 0, none⟩) n n)).run Tryd.prog (w.alloc (.cells C 5)) = .ok (.slice (some ⟨w.heap.size, 0, none⟩) n n) (w.alloc (.cells C 5 (C.size, C.size + 1))) :=
  Go.Lib.run_convert_bytes_const w 22 5 C n n Tryd.underlying22 Tryd.underlying5
set_option maxRecDepth 20000 in
set_option maxHeartbeats 1000000 in
theorem lives_any (w : World) (hC : TabC w) : Calls Tryd.prog 9 #[] w fun e w' => e = .returned (.bool true) ∧ Below w.heap.size w w' := by
  have hz := zero24
  replace hC := hideit hC
  have hs := shasum_any 3 3 abcF
  obtain ⟨R, hR⟩ : ∃ R, R = shaF abcF 3 := ⟨_, rfl⟩
  rw [← hR] at hs
  replace hs := hideit hs
  replace hR := hideit hR
  go_enter Tryd.func9, Tryd.ntmps9
  have hcv : (convert 22 22 (.slice (some ⟨w.heap.size, 0, none⟩) 3 3)).run Tryd.prog (w.alloc (.cells #[.int .u8 97, .int .u8 98, .int .u8 99] 5)) = .ok (.slice (some ⟨w.heap.size, 0, none⟩) 3 3) (w.alloc (.cells #[.int .u8 97, .int .u8 98, .int .u8 99] 5 (3, 4))) := mark_const w _ 3
  have HL := hideit (lie_new w 3 #[.int .u8 97, .int .u8 98, .int .u8 99] 5 (3, 4) abcF (fun j hj => by
    rcases (by omega : j = 0 ∨ j = 1 ∨ j = 2) with rfl | rfl | rfl <;> rfl))
  have HE0 : Ext w (w.alloc (.cells #[.int .u8 97, .int .u8 98, .int .u8 99] 5 (3, 4))) := (Below.refl _ _).alloc (Nat.le_refl _) _
  replace HE0 := hideit HE0
  go_upto_region 2 with (first | (go_at_call 10; refine (hs.out _ _ HL.out (Nat.le_refl _) (by omega) (hC.out.ext HE0.out)).mono ?_; rintro e w2 ⟨rfl, hw2⟩; obtain ⟨d, hd⟩ : ∃ d, d = w2.heap.size := ⟨_, rfl⟩; have HN : RowAt d 32 (yv fun _ => 0#8) (w2.alloc (.cells (row 32 (yv fun _ => 0#8)).toArray 24)) := (by rw [hd]; exact RowAt.new w2 32 (yv fun _ => 0#8) 24); replace HN := hideit HN; have HE1 := hideit (Ext.trans HE0.out hw2); clear hw2 hs HL HE0) | (rw [← hd]; refine wpList_store_mid rfl 24 (.tmp 1) (.tmp 5) rfl _ 0 (row 32 (yv R)).toArray rfl rfl (by rw [row_size]; exact HN.out.there) (by rw [row_size]; exact info24) (row_one fun _ _ => rfl) ?_))
  have HX : RowAt d 32 (yv R) ((w2.alloc (.cells (row 32 (yv fun _ => 0#8)).toArray 24)).setCells d 0 (row 32 (yv R))) ∧ Ext w ((w2.alloc (.cells (row 32 (yv fun _ => 0#8)).toArray 24)).setCells d 0 (row 32 (yv R))) ∧ w.heap.size ≤ d := by
    have hle : w.heap.size ≤ w2.heap.size := Below.size HE1.out
    refine ⟨HN.out.cells, below_setCells _ (by omega) _ _ _ (Below.alloc HE1.out hle _), by omega⟩
  obtain ⟨HD, HE, hdw⟩ := HX
  replace HD := hideit HD
  replace HE := hideit HE
  clear HE1 HN hd hz
  generalize (w2.alloc (.cells (row 32 (yv fun _ => 0#8)).toArray 24)).setCells d 0 (row 32 (yv R)) = X at *
  simp only [Act.put]
  go_upto_region 5 with (go_at_call 16; refine (new_any _).mono ?_; rintro e w3 ⟨c, hc, rfl, hH, hE⟩; have HH := hideit hH; have HE3 := hideit (Ext.trans HE.out hE); have HD3 := hideit (HD.out.carry hE); have hdc : d < c := Nat.lt_of_lt_of_le HD.out.2.2 hc; have hwc : w.heap.size ≤ c := Nat.le_trans (Below.size HE.out) hc; clear hH hE HE HD hc)
  have hc0 : c ≠ 0 := by omega
  have hdc2 : d ≠ c := by omega
  have HO : HashOf c (fun _ => 0#8) 0 w3 := by
    unfold HashOf
    rw [pend_zero]
    exact HH.out
  replace HO := hideit HO
  clear HH
  have HO4 : HashOf c (fun _ => 0#8) 0 (w3.alloc (.cells #[.int .u8 97] 5 (1, 2))) := RowAt.alloc HO.out _
  have HE4 : Ext w (w3.alloc (.cells #[.int .u8 97] 5 (1, 2))) := Below.alloc HE3.out (Below.size HE3.out) _
  have hw1 := write_any c 0 1 1 (fun _ => 0#8) abcF ⟨w3.heap.size, 0, none⟩ (w3.alloc (.cells #[.int .u8 97] 5 (1, 2))) HO4 (hC.out.ext HE4) (lie_new w3 1 _ 5 _ abcF (fun j hj => by
    obtain rfl : j = 0 := by omega
    rfl)) (Nat.le_refl _) (by have := HO.out.2.2; show w3.heap.size ≠ c; omega) hc0 (by omega)
  have HD4 : RowAt d 32 (yv R) (w3.alloc (.cells #[.int .u8 97] 5 (1, 2))) := HD3.out.alloc _
  replace hw1 := hideit hw1
  replace HE4 := hideit HE4
  replace HD4 := hideit HD4
  clear HO HO4 HE3 HD3 hcv
  have hcv : (convert 22 22 (.slice (some ⟨w3.heap.size, 0, none⟩) 1 1)).run Tryd.prog (w3.alloc (.cells #[.int .u8 97] 5)) = .ok (.slice (some ⟨w3.heap.size, 0, none⟩) 1 1) (w3.alloc (.cells #[.int .u8 97] 5 (1, 2))) := mark_const w3 _ 1
  go_upto_region 6 with (go_at_call 18; refine hw1.out.mono ?_; rintro e w5 ⟨rfl, h5, hB5⟩; have HO5 := hideit h5; have HE5 := hideit (Ext.but HE4.out hB5 (by omega)); have HD5 := hideit (HD4.out.but hB5 (by omega)); clear h5 hB5 hw1 HE4 HD4)
  have HO6 : HashOf c (catF (fun _ => 0#8) 0 abcF) (0 + 1) (w5.alloc (.cells #[.int .u8 98, .int .u8 99] 5 (2, 3))) := RowAt.alloc HO5.out _
  have HE6 : Ext w (w5.alloc (.cells #[.int .u8 98, .int .u8 99] 5 (2, 3))) := Below.alloc HE5.out (Below.size HE5.out) _
  have hw2 := write_any c (0 + 1) 2 2 _ (fun j => abcF (1 + j)) ⟨w5.heap.size, 0, none⟩ (w5.alloc (.cells #[.int .u8 98, .int .u8 99] 5 (2, 3))) HO6 (hC.out.ext HE6) (lie_new w5 2 _ 5 _ (fun j => abcF (1 + j)) (fun j hj => by
    rcases (by omega : j = 0 ∨ j = 1) with rfl | rfl <;> rfl)) (Nat.le_refl _) (by have := HO5.out.2.2; show w5.heap.size ≠ c; omega) hc0 (by omega)
  have HD6 : RowAt d 32 (yv R) (w5.alloc (.cells #[.int .u8 98, .int .u8 99] 5 (2, 3))) := HD5.out.alloc _
  replace hw2 := hideit hw2
  replace HE6 := hideit HE6
  replace HD6 := hideit HD6
  clear HO5 HO6 HE5 HD5 hcv
  have hcv : (convert 22 22 (.slice (some ⟨w5.heap.size, 0, none⟩) 2 2)).run Tryd.prog (w5.alloc (.cells #[.int .u8 98, .int .u8 99] 5)) = .ok (.slice (some ⟨w5.heap.size, 0, none⟩) 2 2) (w5.alloc (.cells #[.int .u8 98, .int .u8 99] 5 (2, 3))) := mark_const w5 _ 2
  go_upto_region 7 with (go_at_call 18; refine hw2.out.mono ?_; rintro e w7 ⟨rfl, h7, hB7⟩; have HO7 := hideit h7; have HE7 := hideit (Ext.but HE6.out hB7 (by omega)); have HD7 := hideit (HD6.out.but hB7 (by omega)); clear h7 hB7 hw2 HE6 HD6)
  have HO8 : HashOf c abcF 3 w7 := HashOf.congr (n := 3) HO7.out fun j hj => by
    unfold catF
    rcases (by omega : j = 0 ∨ j = 1 ∨ j = 2) with rfl | rfl | rfl <;> rfl
  replace HO8 := hideit HO8
  clear HO7
  have hsm : Hid (∀ X, Ext w7.drew X → Calls Tryd.prog 19 #[.pointer (some ⟨c, 0, none⟩)] X fun e w' => e = .returned (.agg (row 32 (yv R)).toArray) ∧ Below X.heap.size X w') := fun X hX => by
    have h1 := sum_any c 3 abcF X (RowAt.carry (RowAt.drew HO8.out) hX) ((hC.out.ext HE7.out).ext (Ext.trans (Ext.refl w7).draw hX)) (by omega)
    rw [← hR.out] at h1
    exact h1
  have hln : Hid (∀ X, Ext w7.drew X → Calls Tryd.prog 20 #[.pointer (some ⟨c, 0, none⟩)] X fun e w' => e = .returned (.int .i64 3) ∧ w' = X) := fun X hX => len_any c 3 _ _ X (RowAt.carry (RowAt.drew HO8.out) hX)
  have e0 : ∀ k : Kept (Ext w7.drew), k.w.cell? ⟨d, 0, none⟩ = some (.int .u8 186) := fun k => by rw [HD7.out.kept 0 (by omega) k, hR.out]; simp only [yv, abc_0]; rfl
  have e1 : ∀ k : Kept (Ext w7.drew), k.w.cell? ⟨d, 1, none⟩ = some (.int .u8 120) := fun k => by rw [HD7.out.kept 1 (by omega) k, hR.out]; simp only [yv, abc_1]; rfl
  have e30 : ∀ k : Kept (Ext w7.drew), k.w.cell? ⟨d, 30, none⟩ = some (.int .u8 21) := fun k => by rw [HD7.out.kept 30 (by omega) k, hR.out]; simp only [yv, abc_30]; rfl
  have e31 : ∀ k : Kept (Ext w7.drew), k.w.cell? ⟨d, 31, none⟩ = some (.int .u8 173) := fun k => by rw [HD7.out.kept 31 (by omega) k, hR.out]; simp only [yv, abc_31]; rfl
  have hq := eq24 R
  clear hcv
  have hne := kept_ne w7.drew
  refine wp_region_kept (Ok := Ext w7.drew) (by kernel_rfl) (by kernel_rfl) (Ext.refl _) ?_
  repeat (go_big_quiet_step ((rename_i q; first | (go_at_call 19; exact (hsm.out q.w q.ok).mono fun e w'' h => ⟨h.1, ⟨⟨w'', Ext.trans q.ok h.2⟩, rfl⟩⟩) | (go_at_call 20; exact (hln.out q.w q.ok).mono fun e w'' h => ⟨h.1, ⟨⟨w'', by rw [h.2]; exact q.ok⟩, rfl⟩⟩))))
  go_big_quiet_want
  refine loadQ 24 (.tmp 1) d 0 32 (yv R) rfl rfl (fun w' hw' => (HD7.out.drew.carry hw').range) Tryd.underlying24 rfl info24 ?_
  simp only [Act.put, List.setIfInBounds_toArray, List.set_cons_zero, List.set_cons_succ]
  go_big_quiet_on
  repeat (go_big_quiet_step ((rename_i q; first | (go_at_call 19; exact (hsm.out q.w q.ok).mono fun e w'' h => ⟨h.1, ⟨⟨w'', Ext.trans q.ok h.2⟩, rfl⟩⟩) | (go_at_call 20; exact (hln.out q.w q.ok).mono fun e w'' h => ⟨h.1, ⟨⟨w'', by rw [h.2]; exact q.ok⟩, rfl⟩⟩))))
  refine wpQuiet_nil ?_
  intro _ hw'
  obtain ⟨Z, hZ⟩ := hw'
  subst hZ
  go_wp2
  go_ret
  exact ⟨rfl, Ext.trans (Ext.trans HE7.out (Ext.refl w7).draw) Z.ok⟩
end Go.Proofs.YtbejodcgigdjaaaDoor
