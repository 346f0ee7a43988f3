/-
  The words of a piece, the lowest byte of each first.
-/
import Derived.Test.YtfbmeclpcgdmhabDoorOrd
import Derived.Test.YtfbmeclpcgdmhabDoorCopy
import Derived.Test.YtfbmeclpcgdmhabDoorFlo
namespace Go.Proofs.YtfbmeclpcgdmhabDoor
open Go.RowKit Go.BigFrame
def shB (b : BitVec 8) (k : Nat) : BitVec 64 := b.setWidth 64 <<< k
def wK (p : Nat → BitVec 8) : Nat → Nat → BitVec 64
  | 0, _ => 0#64
  | n + 1, t => if t = n / 8 then oW (wK p n t) (shB (p n) (8 * (n % 8))) else wK p n t
def wordsW (p : Nat → BitVec 8) : Nat → BitVec 64 := wK p 128
theorem shB_fact (b : BitVec 8) (k : Nat) : ((b.toNat : Int) * ((2 ^ k : Nat) : Int)) % 18446744073709551616 = ((shB b k).toNat : Int) := by
  unfold shB
  rw [BitVec.toNat_shiftLeft, BitVec.toNat_setWidth, Nat.shiftLeft_eq, Nat.mod_eq_of_lt (show b.toNat < 2 ^ 64 by have := b.isLt; omega), Int.natCast_emod, Int.natCast_mul]
  rfl
theorem shB_wrap (b : BitVec 8) (k : Nat) : IntKind.u64.wrap ((b.toNat : Int) * 2 ^ k) = ((shB b k).toNat : Int) := by
  rw [IntKind.wrap_u64, ← shB_fact, Int.natCast_pow]
  rfl
theorem idx31 (p : Nat → BitVec 8) (n : Nat) (hn : n < 128) (X : World) : (Instr.index 94 (.agg (row 128 (yv p)).toArray) (.int .i64 (n : Int))).run Tryd.prog X = .ok (.int .u8 ((p n).toNat : Int)) X := by
  have hs : ∀ X, (sizeOf 5).run Tryd.prog X = .ok 1 X := fun X => by kernel_rfl
  have ha : ∀ X, (isAgg 5).run Tryd.prog X = .ok false X := fun X => by kernel_rfl
  have hg := row_get 128 (yv p) n hn
  simp [Instr.index, run_underlying Tryd.underlying94, asIntOf, hn, part, ha, hs, hg, go_sem, yv]
theorem zero31 (w : World) : Sem.run Tryd.prog (zeroValue 94) w = .ok (.agg (row 128 (yv fun _ => 0#8)).toArray) w := by kernel_rfl
set_option maxRecDepth 20000 in
set_option maxHeartbeats 1000000 in
theorem words_any (p : Nat → BitVec 8) (w : World) :
    Calls Tryd.prog 73 #[.agg (row 128 (yv p)).toArray] w fun e w' => e = .returned (.agg (row 16 (wv (wordsW p))).toArray) ∧ Below w.heap.size w w' := by
  have hz := zero46
  obtain ⟨F, hF⟩ : ∃ F, F = wordsW p := ⟨_, rfl⟩
  rw [← hF]
  replace hF := hideit hF
  have H0 : Hid (RowAt w.heap.size 128 (yv p) (w.alloc (.cells (row 128 (yv p)).toArray 94))) := RowAt.new w 128 (yv p) 94
  go_enter Tryd.func73, Tryd.ntmps73
  go_upto_region 2 with (fail)
  have H1 : RowAt w.heap.size 128 (yv p) (((w.alloc (.cells (row 128 (yv p)).toArray 94)).alloc (.cells (row 16 (wv fun _ => 0#64)).toArray 25)).alloc (.cells (row 16 (wv fun _ => 0#64)).toArray 25)) := (H0.out.alloc _).alloc _
  have H2 : RowAt (w.heap.size + 1) 16 (wv fun _ => 0#64) (((w.alloc (.cells (row 128 (yv p)).toArray 94)).alloc (.cells (row 16 (wv fun _ => 0#64)).toArray 25)).alloc (.cells (row 16 (wv fun _ => 0#64)).toArray 25)) := by
    have := (RowAt.new (w.alloc (.cells (row 128 (yv p)).toArray 94)) 16 (wv fun _ => 0#64) 25).alloc (.cells (row 16 (wv fun _ => 0#64)).toArray 25)
    simpa using this
  have H3 : RowAt (w.heap.size + 1 + 1) 16 (wv fun _ => 0#64) (((w.alloc (.cells (row 128 (yv p)).toArray 94)).alloc (.cells (row 16 (wv fun _ => 0#64)).toArray 25)).alloc (.cells (row 16 (wv fun _ => 0#64)).toArray 25)) := by
    have := RowAt.new ((w.alloc (.cells (row 128 (yv p)).toArray 94)).alloc (.cells (row 16 (wv fun _ => 0#64)).toArray 25)) 16 (wv fun _ => 0#64) 25
    simpa using this
  have HB : Ext w (((w.alloc (.cells (row 128 (yv p)).toArray 94)).alloc (.cells (row 16 (wv fun _ => 0#64)).toArray 25)).alloc (.cells (row 16 (wv fun _ => 0#64)).toArray 25)) := (((Below.refl _ _).alloc (Nat.le_refl _) _).alloc (by simp) _).alloc (by simp; omega) _
  replace H1 := hideit H1
  replace H2 := hideit H2
  replace H3 := hideit H3
  replace HB := hideit HB
  generalize ((w.alloc (.cells (row 128 (yv p)).toArray 94)).alloc (.cells (row 16 (wv fun _ => 0#64)).toArray 25)).alloc (.cells (row 16 (wv fun _ => 0#64)).toArray 25) = w1 at *
  clear H0
  refine wp_region_lit ?_
  refine wpList_load_mid rfl 94 (.tmp 1) rfl _ 0 rfl (row 128 (yv p)) _ H1.out.range Tryd.underlying94 rfl (by rw [row_length]; exact info31) ?_
  simp only [Act.put, List.setIfInBounds_toArray, List.set_cons_zero, List.set_cons_succ]
  go_wp2
  go_loopw [7] (fun i wr => ∃ n : Nat, n ≤ 128 ∧ i = .int .i64 n ∧ RowAt (w.heap.size + 1) 16 (wv fun _ => 0#64) wr ∧ RowAt (w.heap.size + 1 + 1) 16 (wv (wK p n)) wr ∧ Ext w wr) (fun i _ => 128 - (intOf i).toNat)
  case atStart => exact ⟨0, by omega, rfl, H2.out, H3.out, HB.out⟩
  case round =>
    clear H1 H2 H3 HB
    obtain ⟨n, hn, rfl, h2, h3, h4⟩ := hrel
    have H2 := hideit h2
    have H3 := hideit h3
    have H4 := hideit h4
    clear h2 h3 h4
    by_cases hlt : n < 128
    · have i0 : (0 : Int) ≤ (n : Int) := by omega
      have i1 : (n : Int) < 128 := by omega
      have hidx := idx31 p n hlt
      go_upto_region 5 with (fail)
      clear hidx
      have hne := kept_ne wr.drew
      have e3 : ∀ k : Kept (Ext wr.drew), k.w.cell? ⟨w.heap.size + 1 + 1, n / 8, none⟩ = some (.int .u64 ((wK p n (n / 8)).toNat : Int)) := fun k => H3.out.kept (n / 8) (by omega) k
      have hsh := shB_wrap (p n) (8 * (n % 8))
      have hor := oW_fact (wK p n (n / 8)) (shB (p n) (8 * (n % 8)))
      refine wp_region_late 11 (by kernel_rfl) (by kernel_rfl) (by decide) ?_
      simp only [List.take_succ_cons, List.take_zero, List.drop_succ_cons, List.drop_zero]
      refine wpStrong_run 11 rfl ?_
      simp only [List.take_succ_cons, List.take_zero, List.drop_succ_cons, List.drop_zero]
      repeat (go_big_quiet_step (fail))
      refine wpQuiet_nil ?_
      refine wpStrong_nil ?_
      intro X hX
      have hwX : Ext wr X := Ext.trans (Below.refl _ _).drew hX
      have H2' := hideit (H2.out.carry hwX)
      have H3' := hideit (H3.out.carry hwX)
      have H4' := hideit (Ext.trans H4.out hwX)
      have eX := H3'.out.1 (n / 8) (by omega)
      have gX := H3'.out.2.1 (n / 8) (by omega)
      clear hwX hX H2 H3 H4 hne e3 hsh hor
      have q0 : (0 : Int) ≤ (n : Int) / 8 := by omega
      have q1 : (n : Int) / 8 < 16 := by omega
      simp only [wv] at eX
      have HF : RowAt (w.heap.size + 1 + 1) 16 (wv (wK p (n + 1))) (X.setCell ⟨w.heap.size + 1 + 1, n / 8, none⟩ (.int .u64 ((oW (wK p n (n / 8)) (shB (p n) (8 * (n % 8)))).toNat : Int))) := (H3'.out.set (n / 8) (.int .u64 ((oW (wK p n (n / 8)) (shB (p n) (8 * (n % 8)))).toNat : Int))).congr fun j _ => by
        simp only [wv, wK]
        by_cases e : j = n / 8
        · subst e; rw [if_pos rfl, if_pos rfl]
        · rw [if_neg e, if_neg e]
      replace HF := hideit HF
      go_wp2
      refine ⟨⟨n + 1, by omega, by go_num, H2'.out.other _ _ (by simp), HF.out, H4'.out.setCell (by simp; omega) _⟩, by simp [intOf]; omega⟩
    · obtain rfl : n = 128 := by omega
      have HR := H3
      have HR0 := H2
      have hB := H4
      have hW : wK p 128 = F := hF.out.symm
      rw [hW] at HR
      clear H2 H3 H4 hW
      go_wp2_with (first | (refine wpList_load_mid rfl 25 (.tmp 3) rfl _ 0 rfl (row 16 (wv F)) _ HR.out.range Tryd.underlying25 rfl (by rw [row_length]; exact info46) ?_) | (refine wpList_store_mid rfl 25 (.tmp 2) (.tmp 24) rfl _ 0 (row 16 (wv F)).toArray rfl rfl (by rw [row_size]; exact HR0.out.there) (by rw [row_size]; exact info46) (row_one fun _ _ => rfl) ?_))
      exact bodyPost_ret (ret_row Tryd.results73 rfl (HR0.out.cells (g' := wv F)) Tryd.underlying25 rfl info46) rfl ⟨rfl, below_setCells _ (by omega) _ _ _ hB.out⟩
end Go.Proofs.YtfbmeclpcgdmhabDoor
