/-
  The document's order and its first words.
-/
import Derived.Test.YtbnbjhainkjknaaDoorMixAll
namespace Go.Proofs.YtbnbjhainkjknaaDoor
open Go.RowKit Go.BigFrame
def strR : ByteArray := ⟨#[48, 49, 50, 51, 52, 53, 54, 55, 56, 57, 97, 98, 99, 100, 101, 102, 101, 97, 52, 56, 57, 102, 100, 54, 49, 99, 48, 50, 98, 55, 53, 51, 98, 56, 99, 48, 53, 50, 102, 100, 97, 101, 51, 54, 55, 49, 57, 52, 55, 57, 51, 49, 100, 99, 98, 101, 50, 54, 53, 97, 52, 48, 102, 56, 57, 48, 53, 55, 50, 52, 97, 102, 101, 49, 98, 99, 54, 56, 51, 100, 50, 99, 54, 97, 48, 98, 56, 51, 52, 100, 55, 53, 102, 101, 49, 57, 99, 53, 49, 102, 101, 100, 52, 97, 48, 55, 54, 51, 57, 50, 56, 98, 100, 98, 55, 101, 99, 49, 51, 57, 53, 48, 102, 52, 56, 54, 50, 97, 54, 102, 101, 57, 98, 51, 48, 56, 99, 50, 100, 55, 49, 52, 97, 53, 97, 50, 56, 52, 55, 54, 49, 53, 102, 98, 57, 101, 51, 99, 100, 48]⟩
def crF (k : Nat) : Nat := (strR.data.getD k 0).toNat
theorem cr_all : ∀ k, k < 160 → (97 ≤ crF k ∧ crF k - 97 + 10 = dgF k ∧ crF k ≤ 102) ∨ (¬ 97 ≤ crF k ∧ 48 ≤ crF k ∧ crF k - 48 = dgF k) := by decide +kernel
theorem idxR (k : Nat) (hk : k < 160) (X : World) : (Instr.index 9 (.string strR) (.int .i64 (k : Int))).run Tryd.prog X = .ok (.int .u8 ((crF k : Nat) : Int)) X := by
  have h : k < strR.size := hk
  have h1 : (strR[k]'h).toNat = crF k := by
    unfold crF Array.getD
    have h2 : k < strR.data.size := h
    rw [dif_pos h2]
    rfl
  simp [Instr.index, run_underlying Tryd.underlying9, asIntOf, h, go_sem, h1]
set_option maxRecDepth 20000 in
set_option maxHeartbeats 1000000 in
theorem rorder_any (r k : Nat) (hr : r < 10) (hk : k < 16) (w : World) : Calls Tryd.prog 23 #[.int .i64 (r : Int), .int .i64 (k : Int)] w fun e w' => e = .returned (.int .i64 ((dgF (16 * r + k) : Nat) : Int)) ∧ w' = w := by
  obtain ⟨A, hA⟩ : ∃ A, A = 16 * r + k := ⟨_, rfl⟩
  rw [← hA]
  have hi := idxR A (by omega)
  have h := cr_all A (by omega)
  generalize crF A = c at *
  generalize dgF A = d at *
  have wr1 : IntKind.i64.wrap (16 * (r : Int)) = 16 * (r : Int) := by rw [IntKind.wrap_i64]; omega
  have wr2 : IntKind.i64.wrap (16 * (r : Int) + (k : Int)) = (A : Int) := by rw [IntKind.wrap_i64]; omega
  go_enter Tryd.func23, Tryd.ntmps23
  go_upto_region 1 with (fail)
  refine wp_region_lit ?_
  refine wpList_run rfl (.int .i64 (r : Int)) (by simp [go_sem]) ?_
  simp only [Act.put, List.setIfInBounds_toArray, List.set_cons_zero, List.set_cons_succ]
  refine wpList_run rfl (.int .i64 (16 * (r : Int))) (by simp [go_sem, wr1]) ?_
  simp only [Act.put, List.setIfInBounds_toArray, List.set_cons_zero, List.set_cons_succ]
  refine wpList_run rfl (.int .i64 (k : Int)) (by simp [go_sem]) ?_
  simp only [Act.put, List.setIfInBounds_toArray, List.set_cons_zero, List.set_cons_succ]
  refine wpList_run rfl (.int .i64 (A : Int)) (by simp [go_sem, wr2]) ?_
  simp only [Act.put, List.setIfInBounds_toArray, List.set_cons_zero, List.set_cons_succ]
  refine wpList_run rfl (.int .u8 (c : Int)) (by refine (Sem.run_bind _ _ _ _).trans ?_; exact (congrArg (fun x => Result.andThen x _) (hi w)).trans rfl) ?_
  simp only [Act.put, List.setIfInBounds_toArray, List.set_cons_zero, List.set_cons_succ]
  clear hi wr1 wr2 hA
  rcases h with ⟨h1, h2, h3⟩ | ⟨h1, h2, h3⟩
  · have i1 : (97 : Int) ≤ (c : Int) := by omega
    have i2 : (c : Int) ≤ 102 := by omega
    go_wp2
    go_ret
    exact ⟨ret_int (by omega), rfl⟩
  · have i1 : ¬ (97 : Int) ≤ (c : Int) := by omega
    have i2 : (48 : Int) ≤ (c : Int) := by omega
    have i3 : (c : Int) < 97 := by omega
    go_wp2
    go_ret
    exact ⟨ret_int (by omega), rfl⟩
set_option maxRecDepth 20000 in
theorem rfirst_any (w : World) : Calls Tryd.prog 15 #[] w fun e w' => e = .returned (.agg (row 8 (wv fT)).toArray) ∧ Below w.heap.size w w' := by
  have hz := zero30
  have HR0 := hideit (RowAt.new w 8 (wv fun _ => 0#64) 30)
  have HE0 : Ext w (w.alloc (.cells (row 8 (wv fun _ => 0#64)).toArray 30)) := (Below.refl _ _).alloc (Nat.le_refl _) _
  replace HE0 := hideit HE0
  have hb := bld14
  obtain ⟨F, hF⟩ : ∃ F, F = fT := ⟨_, rfl⟩
  rw [← hF] at hb ⊢
  clear hF
  go_enter Tryd.func15, Tryd.ntmps15
  go_upto_region 1 with (fail)
  generalize w.alloc (.cells (row 8 (wv fun _ => 0#64)).toArray 30) = w1 at *
  refine wp_region_lit ?_
  refine wpList_build rfl 30 [(0, .const (.int .u64 7640891576956012808)), (1, .const (.int .u64 13503953896175478587)), (2, .const (.int .u64 4354685564936845355)), (3, .const (.int .u64 11912009170470909681)), (4, .const (.int .u64 5840696475078001361)), (5, .const (.int .u64 11170449401992604703)), (6, .const (.int .u64 2270897969802886507)), (7, .const (.int .u64 6620516959819538809))] rfl _ (hb _) ?_
  simp only [Act.put, List.setIfInBounds_toArray, List.set_cons_zero, List.set_cons_succ]
  refine wpList_store_mid rfl 30 (.tmp 0) (.tmp 1) rfl _ 0 (row 8 (wv F)).toArray rfl rfl (by rw [row_size]; exact HR0.out.there) (by rw [row_size]; exact info30) (row_one fun _ _ => rfl) ?_
  go_wp2
  exact bodyPost_ret (ret_row Tryd.results15 rfl (HR0.out.cells (g' := wv F)) Tryd.underlying30 rfl info30) rfl ⟨rfl, below_setCells _ (Nat.le_refl _) _ _ _ HE0.out⟩

end Go.Proofs.YtbnbjhainkjknaaDoor
