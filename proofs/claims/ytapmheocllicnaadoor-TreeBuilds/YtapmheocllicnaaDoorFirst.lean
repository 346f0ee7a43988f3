/-
  The first state and the constants, the program's and the document's.
-/
import Derived.Test.YtapmheocllicnaaDoorSha
import Derived.Deep.CutRange
namespace Go.Proofs.YtapmheocllicnaaDoor
open Go.RowKit Go.BigFrame
def fL : List Nat := [1779033703, 3144134277, 1013904242, 2773480762, 1359893119, 2600822924, 528734635, 1541459225]
def fT (j : Nat) : BitVec 32 := BitVec.ofNat 32 (fL.getD j 0)
theorem fT_row : (row 8 (wv fT)).toArray = #[.int .u32 1779033703, .int .u32 3144134277, .int .u32 1013904242, .int .u32 2773480762, .int .u32 1359893119, .int .u32 2600822924, .int .u32 528734635, .int .u32 1541459225] := by kernel_rfl
theorem kT_row : (row 64 (wv kT)).toArray = #[.int .u32 1116352408, .int .u32 1899447441, .int .u32 3049323471, .int .u32 3921009573, .int .u32 961987163, .int .u32 1508970993, .int .u32 2453635748, .int .u32 2870763221, .int .u32 3624381080, .int .u32 310598401, .int .u32 607225278, .int .u32 1426881987, .int .u32 1925078388, .int .u32 2162078206, .int .u32 2614888103, .int .u32 3248222580, .int .u32 3835390401, .int .u32 4022224774, .int .u32 264347078, .int .u32 604807628, .int .u32 770255983, .int .u32 1249150122, .int .u32 1555081692, .int .u32 1996064986, .int .u32 2554220882, .int .u32 2821834349, .int .u32 2952996808, .int .u32 3210313671, .int .u32 3336571891, .int .u32 3584528711, .int .u32 113926993, .int .u32 338241895, .int .u32 666307205, .int .u32 773529912, .int .u32 1294757372, .int .u32 1396182291, .int .u32 1695183700, .int .u32 1986661051, .int .u32 2177026350, .int .u32 2456956037, .int .u32 2730485921, .int .u32 2820302411, .int .u32 3259730800, .int .u32 3345764771, .int .u32 3516065817, .int .u32 3600352804, .int .u32 4094571909, .int .u32 275423344, .int .u32 430227734, .int .u32 506948616, .int .u32 659060556, .int .u32 883997877, .int .u32 958139571, .int .u32 1322822218, .int .u32 1537002063, .int .u32 1747873779, .int .u32 1955562222, .int .u32 2024104815, .int .u32 2227730452, .int .u32 2361852424, .int .u32 2428436474, .int .u32 2756734187, .int .u32 3204031479, .int .u32 3329325298] := by kernel_rfl
set_option maxRecDepth 20000 in
set_option maxHeartbeats 400000 in
theorem first_any (w : World) : Calls Tryd.prog 46 #[] w fun e w' => e = .returned (.agg (row 8 (wv fT)).toArray) ∧ Below w.heap.size w w' := by
  have hz := zero28
  have HR0 := hideit (RowAt.new w 8 (wv fun _ => 0#32) 68)
  go_enter Tryd.func46, Tryd.ntmps46
  go_upto_region 1 with (fail)
  refine wp_region_lit ?_
  refine wpList_run rfl (.agg (row 8 (wv fT)).toArray) (by kernel_rfl) ?_
  refine wpList_store_mid rfl 68 (.tmp 0) (.tmp 1) rfl _ 0 (row 8 (wv fT)).toArray rfl rfl (by rw [row_size]; exact HR0.out.there) (by rw [row_size]; exact info28) (row_one fun _ _ => rfl) ?_
  go_wp2
  exact bodyPost_ret (ret_row Tryd.results46 rfl (HR0.out.cells (g' := wv fT)) Tryd.underlying68 rfl info28) rfl ⟨rfl, below_setCells _ (Nat.le_refl _) _ _ _ ((Below.refl _ _).alloc (Nat.le_refl _) _)⟩
set_option maxRecDepth 20000 in
set_option maxHeartbeats 400000 in
theorem rfirst_any (w : World) : Calls Tryd.prog 43 #[] w fun e w' => e = .returned (.agg (row 8 (wv fT)).toArray) ∧ Below w.heap.size w w' := by
  have hz := zero28
  have HR0 := hideit (RowAt.new w 8 (wv fun _ => 0#32) 68)
  go_enter Tryd.func43, Tryd.ntmps43
  go_upto_region 1 with (fail)
  refine wp_region_lit ?_
  refine wpList_run rfl (.agg (row 8 (wv fT)).toArray) (by kernel_rfl) ?_
  refine wpList_store_mid rfl 68 (.tmp 0) (.tmp 1) rfl _ 0 (row 8 (wv fT)).toArray rfl rfl (by rw [row_size]; exact HR0.out.there) (by rw [row_size]; exact info28) (row_one fun _ _ => rfl) ?_
  go_wp2
  exact bodyPost_ret (ret_row Tryd.results43 rfl (HR0.out.cells (g' := wv fT)) Tryd.underlying68 rfl info28) rfl ⟨rfl, below_setCells _ (Nat.le_refl _) _ _ _ ((Below.refl _ _).alloc (Nat.le_refl _) _)⟩
set_option maxRecDepth 20000 in
set_option maxHeartbeats 400000 in
theorem consts_any (w : World) : Calls Tryd.prog 50 #[] w fun e w' => e = .returned (.agg (row 64 (wv kT)).toArray) ∧ Below w.heap.size w w' := by
  have hz := zero42
  have HR0 := hideit (RowAt.new w 64 (wv fun _ => 0#32) 77)
  go_enter Tryd.func50, Tryd.ntmps50
  go_upto_region 1 with (fail)
  refine wp_region_lit ?_
  refine wpList_run rfl (.agg (row 64 (wv kT)).toArray) (by kernel_rfl) ?_
  refine wpList_store_mid rfl 77 (.tmp 0) (.tmp 1) rfl _ 0 (row 64 (wv kT)).toArray rfl rfl (by rw [row_size]; exact HR0.out.there) (by rw [row_size]; exact info42) (row_one fun _ _ => rfl) ?_
  go_wp2
  exact bodyPost_ret (ret_row Tryd.results50 rfl (HR0.out.cells (g' := wv kT)) Tryd.underlying77 rfl info42) rfl ⟨rfl, below_setCells _ (Nat.le_refl _) _ _ _ ((Below.refl _ _).alloc (Nat.le_refl _) _)⟩
end Go.Proofs.YtapmheocllicnaaDoor
