/-
  The first state and the constants, the program's and the document's. Worlds in which nothing turned of what was there, but one block; plain facts, no word of the program.
-/
import Derived.Test.YtedgopionpdfeaaDoorQ3
import Derived.Deep.CutRange
import Derived.Test.YtedgopionpdfeaaDoorQ2
import Derived.Laws.AppendOwn
namespace Go.Proofs.YtedgopionpdfeaaDoor
open Go.RowKit Go.BigFrame
def fL : List Nat := [1779033703, 3144134277, 1013904242, 2773480762, 1359893119, 2600822924, 528734635, 1541459225]
def fT (j : Nat) : BitVec 32 := BitVec.ofNat 32 (fL.getD j 0)
theorem fT_row : (row 8 (wv fT)).toArray = #[.int .u32 1779033703, .int .u32 3144134277, .int .u32 1013904242, .int .u32 2773480762, .int .u32 1359893119, .int .u32 2600822924, .int .u32 528734635, .int .u32 1541459225] := by kernel_rfl
theorem kT_row : (row 64 (wv kT)).toArray = #[.int .u32 1116352408, .int .u32 1899447441, .int .u32 3049323471, .int .u32 3921009573, .int .u32 961987163, .int .u32 1508970993, .int .u32 2453635748, .int .u32 2870763221, .int .u32 3624381080, .int .u32 310598401, .int .u32 607225278, .int .u32 1426881987, .int .u32 1925078388, .int .u32 2162078206, .int .u32 2614888103, .int .u32 3248222580, .int .u32 3835390401, .int .u32 4022224774, .int .u32 264347078, .int .u32 604807628, .int .u32 770255983, .int .u32 1249150122, .int .u32 1555081692, .int .u32 1996064986, .int .u32 2554220882, .int .u32 2821834349, .int .u32 2952996808, .int .u32 3210313671, .int .u32 3336571891, .int .u32 3584528711, .int .u32 113926993, .int .u32 338241895, .int .u32 666307205, .int .u32 773529912, .int .u32 1294757372, .int .u32 1396182291, .int .u32 1695183700, .int .u32 1986661051, .int .u32 2177026350, .int .u32 2456956037, .int .u32 2730485921, .int .u32 2820302411, .int .u32 3259730800, .int .u32 3345764771, .int .u32 3516065817, .int .u32 3600352804, .int .u32 4094571909, .int .u32 275423344, .int .u32 430227734, .int .u32 506948616, .int .u32 659060556, .int .u32 883997877, .int .u32 958139571, .int .u32 1322822218, .int .u32 1537002063, .int .u32 1747873779, .int .u32 1955562222, .int .u32 2024104815, .int .u32 2227730452, .int .u32 2361852424, .int .u32 2428436474, .int .u32 2756734187, .int .u32 3204031479, .int .u32 3329325298] := by kernel_rfl
set_option maxRecDepth 20000 in
set_option maxHeartbeats 400000 in
theorem first_any (w : World) : Calls Tryd.prog 75 #[] w fun e w' => e = .returned (.agg (row 8 (wv fT)).toArray) ∧ Below w.heap.size w w' := by
  have hz := zero28
  have HR0 := hideit (RowAt.new w 8 (wv fun _ => 0#32) 95)
  go_enter Tryd.func75, Tryd.ntmps75
  go_upto_region 1 with (fail)
  refine wp_region_lit ?_
  refine wpList_run rfl (.agg (row 8 (wv fT)).toArray) (by kernel_rfl) ?_
  refine wpList_store_mid rfl 95 (.tmp 0) (.tmp 1) rfl _ 0 (row 8 (wv fT)).toArray rfl rfl (by rw [row_size]; exact HR0.out.there) (by rw [row_size]; exact info28) (row_one fun _ _ => rfl) ?_
  go_wp2
  exact bodyPost_ret (ret_row Tryd.results75 rfl (HR0.out.cells (g' := wv fT)) Tryd.underlying95 rfl info28) rfl ⟨rfl, below_setCells _ (Nat.le_refl _) _ _ _ ((Below.refl _ _).alloc (Nat.le_refl _) _)⟩
set_option maxRecDepth 20000 in
set_option maxHeartbeats 400000 in
theorem rfirst_any (w : World) : Calls Tryd.prog 68 #[] w fun e w' => e = .returned (.agg (row 8 (wv fT)).toArray) ∧ Below w.heap.size w w' := by
  have hz := zero28
  have HR0 := hideit (RowAt.new w 8 (wv fun _ => 0#32) 95)
  go_enter Tryd.func68, Tryd.ntmps68
  go_upto_region 1 with (fail)
  refine wp_region_lit ?_
  refine wpList_run rfl (.agg (row 8 (wv fT)).toArray) (by kernel_rfl) ?_
  refine wpList_store_mid rfl 95 (.tmp 0) (.tmp 1) rfl _ 0 (row 8 (wv fT)).toArray rfl rfl (by rw [row_size]; exact HR0.out.there) (by rw [row_size]; exact info28) (row_one fun _ _ => rfl) ?_
  go_wp2
  exact bodyPost_ret (ret_row Tryd.results68 rfl (HR0.out.cells (g' := wv fT)) Tryd.underlying95 rfl info28) rfl ⟨rfl, below_setCells _ (Nat.le_refl _) _ _ _ ((Below.refl _ _).alloc (Nat.le_refl _) _)⟩
set_option maxRecDepth 20000 in
set_option maxHeartbeats 400000 in
theorem consts_any (w : World) : Calls Tryd.prog 79 #[] w fun e w' => e = .returned (.agg (row 64 (wv kT)).toArray) ∧ Below w.heap.size w w' := by
  have hz := zero42
  have HR0 := hideit (RowAt.new w 64 (wv fun _ => 0#32) 112)
  go_enter Tryd.func79, Tryd.ntmps79
  go_upto_region 1 with (fail)
  refine wp_region_lit ?_
  refine wpList_run rfl (.agg (row 64 (wv kT)).toArray) (by kernel_rfl) ?_
  refine wpList_store_mid rfl 112 (.tmp 0) (.tmp 1) rfl _ 0 (row 64 (wv kT)).toArray rfl rfl (by rw [row_size]; exact HR0.out.there) (by rw [row_size]; exact info42) (row_one fun _ _ => rfl) ?_
  go_wp2
  exact bodyPost_ret (ret_row Tryd.results79 rfl (HR0.out.cells (g' := wv kT)) Tryd.underlying112 rfl info42) rfl ⟨rfl, below_setCells _ (Nat.le_refl _) _ _ _ ((Below.refl _ _).alloc (Nat.le_refl _) _)⟩
end Go.Proofs.YtedgopionpdfeaaDoor
namespace Go.Proofs.YtedgopionpdfeaaDoor
open Go.RowKit
/-- all that lay in w lies in w' as it was, but what block c holds -/
def But (c : Nat) (w w' : World) : Prop := w.grownBy w' (some c)
theorem But.refl (c : Nat) (w : World) : But c w w := ⟨rfl, rfl, rfl, Nat.le_refl _, fun _ _ _ => rfl⟩
theorem But.trans {c : Nat} {a b d : World} (h : But c a b) (k : But c b d) : But c a d :=
  ⟨k.os.trans h.os, k.tape.trans h.tape, k.output.trans h.output, Nat.le_trans h.size k.size, fun i hi hn => (k.block i (Nat.lt_of_lt_of_le hi h.size) hn).trans (h.block i hi hn)⟩
theorem But.of_ext {c : Nat} {w w' : World} (h : Ext w w') : But c w w' := ⟨Below.os h, Below.tape h, Below.output h, Below.size h, fun i hi _ => Below.block h i hi⟩
theorem But.drew {c : Nat} {w w' : World} (h : But c w w') : But c w w'.drew := h.trans (But.of_ext (Ext.refl w').draw)
theorem But.ext {c : Nat} {w X Y : World} (h : But c w X) (k : Ext X Y) : But c w Y := h.trans (But.of_ext k)
theorem but_setCell (w : World) (c i : Nat) (v : Value) : But c w (w.setCell ⟨c, i, none⟩ v) := by
  have h := (Below.refl 0 w).setCell (p := ⟨c, i, none⟩) (Nat.zero_le _) v
  refine ⟨h.os, h.tape, h.output, h.size, fun k hk hn => ?_⟩
  have h2 : ∀ B, B ≤ c → Below B w (w.setCell ⟨c, i, none⟩ v) := fun B hB => (Below.refl B w).setCell (p := ⟨c, i, none⟩) hB v
  by_cases hkc : k < c
  · exact (h2 c (Nat.le_refl _)).block k hkc
  · have hne : k ≠ c := fun e => hn (by rw [e])
    simp only [World.setCell]
    rw [Array.getElem?_modify]
    simp [Ne.symm hne]
theorem But.set {c : Nat} {w X : World} (h : But c w X) (i : Nat) (v : Value) : But c w (X.setCell ⟨c, i, none⟩ v) := h.trans (but_setCell X c i v)
theorem But.sets {c : Nat} {w : World} : ∀ (vs : List Value) (o : Nat) (X : World), But c w X → But c w (X.setCells c o vs)
  | [], _, _, h => h
  | v :: r, o, X, h => by rw [World.setCells]; exact But.sets r (o + 1) _ (h.set o v)
theorem RowAt.but {b n c : Nat} {g : Nat → Value} {w w' : World} (h : RowAt b n g w) (k : But c w w') (hne : b ≠ c) : RowAt b n g w' :=
  ⟨fun j hj => (World.cell?_of_block (a := ⟨b, j, none⟩) (k.block b h.2.2 (by simpa using hne))).trans (h.1 j hj), fun j hj => (World.frozen?_of_block (a := ⟨b, j, none⟩) (k.block b h.2.2 (by simpa using hne))).trans (h.2.1 j hj), Nat.lt_of_lt_of_le h.2.2 k.size⟩
theorem But.below {B c : Nat} {w w' : World} (h : But c w w') (hc : B ≤ c) (hB : B ≤ w.heap.size) : Below B w w' :=
  ⟨h.os, h.tape, h.output, h.size, fun k hk => h.block k (by omega) (by simp; omega)⟩
theorem But.fresh {c : Nat} {w w' : World} (h : But c w w') (hc : w.heap.size ≤ c) : Ext w w' := h.below hc (Nat.le_refl _)
/-- what came behind w, with one block of it turned -/
theorem Ext.but {c : Nat} {w X Y : World} (h : Ext w X) (k : But c X Y) (hc : w.heap.size ≤ c) : Ext w Y := Below.trans h (k.below hc (Below.size h))
theorem Below.but {B c : Nat} {w X Y : World} (h : Below B w X) (k : But c X Y) (hc : B ≤ c) (hB : B ≤ X.heap.size) : Below B w Y := Below.trans h (k.below hc hB)
theorem But.cell {c : Nat} {w w' : World} (h : But c w w') (a : Addr) (hl : a.block < w.heap.size) (hne : a.block ≠ c) : w'.cell? a = w.cell? a := World.cell?_of_block (h.block a.block hl (by simpa using hne))
theorem But.frozen {c : Nat} {w w' : World} (h : But c w w') (a : Addr) (hl : a.block < w.heap.size) (hne : a.block ≠ c) : w'.frozen? a = w.frozen? a := World.frozen?_of_block (h.block a.block hl (by simpa using hne))
end Go.Proofs.YtedgopionpdfeaaDoor
