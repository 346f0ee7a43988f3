/-
  The first state and the constants, the program's and the document's. Worlds in which nothing turned of what was there, but one block; plain facts, no word of the program. The small functions on a Hash, for every Hash in every world. Cells copied into a row; a whole array loaded in a region that draws its order; bytes that lie behind an address.
-/
import Derived.Test.YtenlokmoijeehaaDoorGb
import Derived.Deep.CutRange
import Derived.Test.YtenlokmoijeehaaDoorGa
import Derived.Laws.AppendOwn
import Derived.Test.YtenlokmoijeehaaDoorGc
import Derived.Laws.IdiomCopy
namespace Go.Proofs.YtenlokmoijeehaaDoor
open Go.RowKit Go.BigFrame
def fL : List Nat := [1779033703, 3144134277, 1013904242, 2773480762, 1359893119, 2600822924, 528734635, 1541459225]
def fT (j : Nat) : BitVec 32 := BitVec.ofNat 32 (fL.getD j 0)
theorem fT_row : (row 8 (wv fT)).toArray = #[.int .u32 1779033703, .int .u32 3144134277, .int .u32 1013904242, .int .u32 2773480762, .int .u32 1359893119, .int .u32 2600822924, .int .u32 528734635, .int .u32 1541459225] := by kernel_rfl
theorem kT_row : (row 64 (wv kT)).toArray = #[.int .u32 1116352408, .int .u32 1899447441, .int .u32 3049323471, .int .u32 3921009573, .int .u32 961987163, .int .u32 1508970993, .int .u32 2453635748, .int .u32 2870763221, .int .u32 3624381080, .int .u32 310598401, .int .u32 607225278, .int .u32 1426881987, .int .u32 1925078388, .int .u32 2162078206, .int .u32 2614888103, .int .u32 3248222580, .int .u32 3835390401, .int .u32 4022224774, .int .u32 264347078, .int .u32 604807628, .int .u32 770255983, .int .u32 1249150122, .int .u32 1555081692, .int .u32 1996064986, .int .u32 2554220882, .int .u32 2821834349, .int .u32 2952996808, .int .u32 3210313671, .int .u32 3336571891, .int .u32 3584528711, .int .u32 113926993, .int .u32 338241895, .int .u32 666307205, .int .u32 773529912, .int .u32 1294757372, .int .u32 1396182291, .int .u32 1695183700, .int .u32 1986661051, .int .u32 2177026350, .int .u32 2456956037, .int .u32 2730485921, .int .u32 2820302411, .int .u32 3259730800, .int .u32 3345764771, .int .u32 3516065817, .int .u32 3600352804, .int .u32 4094571909, .int .u32 275423344, .int .u32 430227734, .int .u32 506948616, .int .u32 659060556, .int .u32 883997877, .int .u32 958139571, .int .u32 1322822218, .int .u32 1537002063, .int .u32 1747873779, .int .u32 1955562222, .int .u32 2024104815, .int .u32 2227730452, .int .u32 2361852424, .int .u32 2428436474, .int .u32 2756734187, .int .u32 3204031479, .int .u32 3329325298] := by kernel_rfl
set_option maxRecDepth 20000 in
set_option maxHeartbeats 400000 in
theorem first_any (w : World) : Calls Tryd.prog 59 #[] w fun e w' => e = .returned (.agg (row 8 (wv fT)).toArray) ∧ Below w.heap.size w w' := by
  have hz := zero28
  have HR0 := hideit (RowAt.new w 8 (wv fun _ => 0#32) 80)
  go_enter Tryd.func59, Tryd.ntmps59
  go_upto_region 1 with (fail)
  refine wp_region_lit ?_
  refine wpList_run rfl (.agg (row 8 (wv fT)).toArray) (by kernel_rfl) ?_
  refine wpList_store_mid rfl 80 (.tmp 0) (.tmp 1) rfl _ 0 (row 8 (wv fT)).toArray rfl rfl (by rw [row_size]; exact HR0.out.there) (by rw [row_size]; exact info28) (row_one fun _ _ => rfl) ?_
  go_wp2
  exact bodyPost_ret (ret_row Tryd.results59 rfl (HR0.out.cells (g' := wv fT)) Tryd.underlying80 rfl info28) rfl ⟨rfl, below_setCells _ (Nat.le_refl _) _ _ _ ((Below.refl _ _).alloc (Nat.le_refl _) _)⟩
set_option maxRecDepth 20000 in
set_option maxHeartbeats 400000 in
theorem rfirst_any (w : World) : Calls Tryd.prog 49 #[] w fun e w' => e = .returned (.agg (row 8 (wv fT)).toArray) ∧ Below w.heap.size w w' := by
  have hz := zero28
  have HR0 := hideit (RowAt.new w 8 (wv fun _ => 0#32) 80)
  go_enter Tryd.func49, Tryd.ntmps49
  go_upto_region 1 with (fail)
  refine wp_region_lit ?_
  refine wpList_run rfl (.agg (row 8 (wv fT)).toArray) (by kernel_rfl) ?_
  refine wpList_store_mid rfl 80 (.tmp 0) (.tmp 1) rfl _ 0 (row 8 (wv fT)).toArray rfl rfl (by rw [row_size]; exact HR0.out.there) (by rw [row_size]; exact info28) (row_one fun _ _ => rfl) ?_
  go_wp2
  exact bodyPost_ret (ret_row Tryd.results49 rfl (HR0.out.cells (g' := wv fT)) Tryd.underlying80 rfl info28) rfl ⟨rfl, below_setCells _ (Nat.le_refl _) _ _ _ ((Below.refl _ _).alloc (Nat.le_refl _) _)⟩
set_option maxRecDepth 20000 in
set_option maxHeartbeats 400000 in
theorem consts_any (w : World) : Calls Tryd.prog 63 #[] w fun e w' => e = .returned (.agg (row 64 (wv kT)).toArray) ∧ Below w.heap.size w w' := by
  have hz := zero42
  have HR0 := hideit (RowAt.new w 64 (wv fun _ => 0#32) 95)
  go_enter Tryd.func63, Tryd.ntmps63
  go_upto_region 1 with (fail)
  refine wp_region_lit ?_
  refine wpList_run rfl (.agg (row 64 (wv kT)).toArray) (by kernel_rfl) ?_
  refine wpList_store_mid rfl 95 (.tmp 0) (.tmp 1) rfl _ 0 (row 64 (wv kT)).toArray rfl rfl (by rw [row_size]; exact HR0.out.there) (by rw [row_size]; exact info42) (row_one fun _ _ => rfl) ?_
  go_wp2
  exact bodyPost_ret (ret_row Tryd.results63 rfl (HR0.out.cells (g' := wv kT)) Tryd.underlying95 rfl info42) rfl ⟨rfl, below_setCells _ (Nat.le_refl _) _ _ _ ((Below.refl _ _).alloc (Nat.le_refl _) _)⟩
end Go.Proofs.YtenlokmoijeehaaDoor
namespace Go.Proofs.YtenlokmoijeehaaDoor
open Go.RowKit
/-- all that lay in w lies in w' as it was, but what block c holds -/
def But (c : Nat) (w w' : World) : Prop := w.grownBy w' (some c)
theorem But.refl (c : Nat) (w : World) : But c w w := ⟨rfl, rfl, rfl, Nat.le_refl _, fun _ _ _ => rfl⟩
theorem But.trans {c : Nat} {a b d : World} (h : But c a b) (k : But c b d) : But c a d :=
  ⟨k.os.trans h.os, k.tape.trans h.tape, k.output.trans h.output, Nat.le_trans h.size k.size, fun i hi hn => (k.block i (Nat.lt_of_lt_of_le hi h.size) hn).trans (h.block i hi hn)⟩
theorem But.of_ext {c : Nat} {w w' : World} (h : Ext w w') : But c w w' := ⟨Below.os h, Below.tape h, Below.output h, Below.size h, fun i hi _ => Below.block h i hi⟩
theorem But.drew {c : Nat} {w w' : World} (h : But c w w') : But c w w'.drew := h.trans (But.of_ext (Ext.refl w').draw)
theorem But.ext {c : Nat} {w X Y : World} (h : But c w X) (k : Ext X Y) : But c w Y := h.trans (But.of_ext k)
theorem but_setCell (w : World) (c i : Nat) (v : Value) : But c w (w.setCell ⟨c, i, none⟩ v) := by
  have h := (Below.refl 0 w).setCell (p := ⟨c, i, none⟩) (Nat.zero_le _) v
  refine ⟨h.os, h.tape, h.output, h.size, fun k hk hn => ?_⟩
  have h2 : ∀ B, B ≤ c → Below B w (w.setCell ⟨c, i, none⟩ v) := fun B hB => (Below.refl B w).setCell (p := ⟨c, i, none⟩) hB v
  by_cases hkc : k < c
  · exact (h2 c (Nat.le_refl _)).block k hkc
  · have hne : k ≠ c := fun e => hn (by rw [e])
    simp only [World.setCell]
    rw [Array.getElem?_modify]
    simp [Ne.symm hne]
theorem But.set {c : Nat} {w X : World} (h : But c w X) (i : Nat) (v : Value) : But c w (X.setCell ⟨c, i, none⟩ v) := h.trans (but_setCell X c i v)
theorem But.sets {c : Nat} {w : World} : ∀ (vs : List Value) (o : Nat) (X : World), But c w X → But c w (X.setCells c o vs)
  | [], _, _, h => h
  | v :: r, o, X, h => by rw [World.setCells]; exact But.sets r (o + 1) _ (h.set o v)
theorem RowAt.but {b n c : Nat} {g : Nat → Value} {w w' : World} (h : RowAt b n g w) (k : But c w w') (hne : b ≠ c) : RowAt b n g w' :=
  ⟨fun j hj => (World.cell?_of_block (a := ⟨b, j, none⟩) (k.block b h.2.2 (by simpa using hne))).trans (h.1 j hj), fun j hj => (World.frozen?_of_block (a := ⟨b, j, none⟩) (k.block b h.2.2 (by simpa using hne))).trans (h.2.1 j hj), Nat.lt_of_lt_of_le h.2.2 k.size⟩
theorem But.below {B c : Nat} {w w' : World} (h : But c w w') (hc : B ≤ c) (hB : B ≤ w.heap.size) : Below B w w' :=
  ⟨h.os, h.tape, h.output, h.size, fun k hk => h.block k (by omega) (by simp; omega)⟩
theorem But.fresh {c : Nat} {w w' : World} (h : But c w w') (hc : w.heap.size ≤ c) : Ext w w' := h.below hc (Nat.le_refl _)
/-- what came behind w, with one block of it turned -/
theorem Ext.but {c : Nat} {w X Y : World} (h : Ext w X) (k : But c X Y) (hc : w.heap.size ≤ c) : Ext w Y := Below.trans h (k.below hc (Below.size h))
theorem Below.but {B c : Nat} {w X Y : World} (h : Below B w X) (k : But c X Y) (hc : B ≤ c) (hB : B ≤ X.heap.size) : Below B w Y := Below.trans h (k.below hc hB)
theorem But.cell {c : Nat} {w w' : World} (h : But c w w') (a : Addr) (hl : a.block < w.heap.size) (hne : a.block ≠ c) : w'.cell? a = w.cell? a := World.cell?_of_block (h.block a.block hl (by simpa using hne))
theorem But.frozen {c : Nat} {w w' : World} (h : But c w w') (a : Addr) (hl : a.block < w.heap.size) (hne : a.block ≠ c) : w'.frozen? a = w.frozen? a := World.frozen?_of_block (h.block a.block hl (by simpa using hne))
end Go.Proofs.YtenlokmoijeehaaDoor
namespace Go.Proofs.YtenlokmoijeehaaDoor
open Go.RowKit Go.BigFrame
/-- what a Hash holds: a state, bytes that wait, how many came -/
def hv (s : Nat → BitVec 32) (p : Nat → BitVec 8) (n : Nat) (j : Nat) : Value := if j < 8 then wv s j else if j < 72 then yv p (j - 8) else .int .i64 (n : Int)
def HashAt (c : Nat) (s : Nat → BitVec 32) (p : Nat → BitVec 8) (n : Nat) (w : World) : Prop := RowAt c 73 (hv s p n) w
section
variable {c n : Nat} {s : Nat → BitVec 32} {p : Nat → BitVec 8} {w : World}
theorem HashAt.len (h : HashAt c s p n w) : w.cell? ⟨c, 72, none⟩ = some (.int .i64 (n : Int)) := h.1 72 (by decide)
theorem HashAt.state (h : HashAt c s p n w) : w.rangeAt c 0 (row 8 (wv s)) := fun j v hx => by
  obtain ⟨hj, rfl⟩ := row_some hx
  have h1 := h.1 j (by omega)
  rw [show 0 + j = j by omega, h1]
  simp only [hv, if_pos hj]
theorem HashAt.piece (h : HashAt c s p n w) : w.rangeAt c 8 (row 64 (yv p)) := fun j v hx => by
  obtain ⟨hj, rfl⟩ := row_some hx
  have h1 := h.1 (8 + j) (by omega)
  rw [h1]
  simp only [hv, if_neg (show ¬ (8 + j < 8) by omega), if_pos (show 8 + j < 72 by omega), yv, show 8 + j - 8 = j by omega]
end
theorem waiting_any (c n : Nat) (s : Nat → BitVec 32) (p : Nat → BitVec 8) (w : World) (h : HashAt c s p n w) :
    Calls Tryd.prog 60 #[.pointer (some ⟨c, 0, none⟩)] w fun e w' => e = .returned (.int .i64 ((n % 64 : Nat) : Int)) ∧ w' = w := by
  have e0 := h.len
  clear h
  have n0 : (0 : Int) ≤ (n : Int) := by omega
  go_enter Tryd.func60, Tryd.ntmps60
  go_wp2
  go_ret
  exact ⟨ret_int (by omega), rfl⟩
theorem nil_write (v : Value) (w : World) : Calls Tryd.prog 46 #[.pointer none, v] w fun e w' => e = .returned (.tuple #[]) ∧ w' = w := by
  go_enter Tryd.func46, Tryd.ntmps46
  go_wp2
  exact bodyPost_ret (v := .tuple #[]) (by simp [results, Tryd.results46]) rfl ⟨rfl, rfl⟩
theorem zero48 (w : World) : Sem.run Tryd.prog (zeroValue 93) w = .ok (.agg (row 73 (hv (fun _ => 0#32) (fun _ => 0#8) 0)).toArray) w := by kernel_rfl
theorem info48 : (Tryd.prog.info? 93).map (·.size) = some 73 := by kernel_rfl
/-- a byte of a digest -/
def digF (s : Nat → BitVec 32) (j : Nat) : BitVec 8 := (s (j / 4) >>> (24 - 8 * (j % 4))).setWidth 8
theorem dig_fact (a : BitVec 32) (k : Nat) : (a.toNat : Int) / 2 ^ k % 256 = (((a >>> k).setWidth 8).toNat : Int) := by
  rw [BitVec.toNat_setWidth, BitVec.toNat_ushiftRight, Nat.shiftRight_eq_div_pow]
  simp
set_option maxRecDepth 20000 in
set_option maxHeartbeats 1000000 in
theorem digest_any (s : Nat → BitVec 32) (w : World) :
    Calls Tryd.prog 62 #[.agg (row 8 (wv s)).toArray] w fun e w' => e = .returned (.agg (row 32 (yv (digF s))).toArray) ∧ Below w.heap.size w w' := by
  have hz := zero24
  go_enter Tryd.func62, Tryd.ntmps62
  go_wp2
  go_loopw [5] (fun i wr => ∃ n : Nat, n ≤ 32 ∧ i = .int .i64 n ∧ RowAt w.heap.size 8 (wv s) wr ∧ RowAt (w.heap.size + 1) 32 (yv fun _ => 0#8) wr ∧ RowAt (w.heap.size + 1 + 1) 32 (yv fun j => if j < n then digF s j else 0#8) wr ∧ Below w.heap.size w wr) (fun i _ => 32 - (intOf i).toNat)
  case atStart =>
    refine ⟨0, by omega, rfl, ?_, ?_, ?_, ?_⟩
    · exact ((RowAt.new w 8 (wv s) 80).alloc _).alloc _
    · have := (RowAt.new (w.alloc (Obj.cells (row 8 (wv s)).toArray 80)) 32 (yv fun _ => 0#8) 52).alloc (Obj.cells (row 32 (yv fun _ => 0#8)).toArray 52)
      simpa using this
    · have := RowAt.new ((w.alloc (Obj.cells (row 8 (wv s)).toArray 80)).alloc (Obj.cells (row 32 (yv fun _ => 0#8)).toArray 52)) 32 (yv fun _ => 0#8) 52
      exact RowAt.congr (g := yv fun _ => 0#8) (by simpa using this) fun j _ => by simp [yv]
    · exact (((Below.refl _ _).alloc (Nat.le_refl _) _).alloc (by simp) _).alloc (by simp; omega) _
  case round =>
    obtain ⟨n, hn, rfl, h1, h2, h3, h4⟩ := hrel
    by_cases hlt : n < 32
    · have H1 := hideit h1
      have H2 := hideit h2
      have H3 := hideit h3
      have H4 := hideit h4
      have e1 := h1.1 (n / 4) (by omega)
      have e3 := h3.1 n hlt
      have g3 := h3.2.1 n hlt
      clear h1 h2 h3 h4
      simp only [wv] at e1
      have i0 : (0 : Int) ≤ (n : Int) := by omega
      have i1 : (n : Int) < 32 := by omega
      have b1 := (s (n / 4)).isLt
      go_wp2
      rw [dig_fact]
      refine ⟨⟨n + 1, by omega, by go_num, H1.out.other _ _ (by simp; omega), H2.out.other _ _ (by simp), (H3.out.set n _).congr fun j _ => ?_, H4.out.setCell (by simp; omega) _⟩, by simp [intOf]; omega⟩
      simp only [yv]
      by_cases e : j = n
      · subst e; rw [if_pos rfl, if_pos (by omega)]; rfl
      · rw [if_neg e]
        by_cases h : j < n
        · rw [if_pos h, if_pos (by omega)]
        · rw [if_neg h, if_neg (by omega)]
    · obtain rfl : n = 32 := by omega
      have HR := hideit (h3.congr (g' := yv (digF s)) fun j hj => by simp only [yv]; rw [if_pos hj])
      have HR0 := hideit h2
      have hB := hideit h4
      clear h1 h2 h3 h4
      go_wp2_with (first | (refine wpList_load_mid rfl 52 (.tmp 3) rfl _ 0 rfl (row 32 (yv (digF s))) _ HR.out.range Tryd.underlying52 rfl (by rw [row_length]; exact info24) ?_) | (refine wpList_store_mid rfl 52 (.tmp 2) (.tmp 21) rfl _ 0 (row 32 (yv (digF s))).toArray rfl rfl (by rw [row_size]; exact HR0.out.there) (by rw [row_size]; exact info24) (row_one fun _ _ => rfl) ?_))
      exact bodyPost_ret (ret_row Tryd.results62 rfl (HR0.out.cells (g' := yv (digF s))) Tryd.underlying52 rfl info24) rfl ⟨rfl, below_setCells _ (by omega) _ _ _ hB.out⟩
set_option maxRecDepth 20000 in
set_option maxHeartbeats 1000000 in
theorem new_any (w : World) : Calls Tryd.prog 45 #[] w fun e w' => ∃ c, w.heap.size ≤ c ∧ e = .returned (.pointer (some ⟨c, 0, none⟩)) ∧ HashAt c fT (fun _ => 0#8) 0 w' ∧ Ext w w' := by
  have hb : ∀ X, (Instr.build 93 #[(0, .agg (row 8 (wv fT)).toArray)]).run Tryd.prog X = .ok (.agg (row 73 (hv fT (fun _ => 0#8) 0)).toArray) X := fun X => by kernel_rfl
  have hf := first_any
  obtain ⟨f, hfe⟩ : ∃ f, f = fT := ⟨_, rfl⟩
  rw [← hfe] at hf hb ⊢
  clear hfe
  replace hf := hideit hf
  go_enter Tryd.func45, Tryd.ntmps45
  go_upto_region 1 with (fail)
  refine wp_region_lit ?_
  refine wpList_call rfl (by simp [go_sem]) ((hf.out _).mono ?_)
  rintro e w2 ⟨rfl, hw2⟩
  refine ⟨_, rfl, ?_⟩
  refine wpList_build rfl 93 [(0, .tmp 1)] rfl _ (hb _) ?_
  simp only [Act.put, List.setIfInBounds_toArray, List.set_cons_zero, List.set_cons_succ]
  go_wp2
  go_ret
  exact ⟨w2.heap.size, hw2.size, rfl, RowAt.new w2 73 _ 93, Ext.trans hw2 ((Below.refl _ _).alloc (Nat.le_refl _) _)⟩
theorem load48 (X : World) (c n : Nat) (s : Nat → BitVec 32) (p : Nat → BitVec 8) (h : HashAt c s p n X) : X.rangeAt c 0 (row 73 (hv s p n)) := RowAt.range h
end Go.Proofs.YtenlokmoijeehaaDoor
namespace Go.Proofs.YtenlokmoijeehaaDoor
open Go.RowKit Go.BigFrame
/-- n cells behind an address -/
def LieAt (a : Addr) (n : Nat) (g : Nat → Value) (w : World) : Prop := (∀ j, j < n → w.cell? (a.add j) = some (g j)) ∧ a.block < w.heap.size
theorem LieAt.below {a : Addr} {n B : Nat} {g : Nat → Value} {w X : World} (h : LieAt a n g w) (hb : a.block < B) (hB : Below B w X) : LieAt a n g X :=
  ⟨fun j hj => (hB.cell (p := a.add j) (by unfold Addr.add; split <;> exact hb)).trans (h.1 j hj), Nat.lt_of_lt_of_le h.2 hB.size⟩
theorem LieAt.carry {a : Addr} {n : Nat} {g : Nat → Value} {w X : World} (h : LieAt a n g w) (hB : Ext w X) : LieAt a n g X := h.below h.2 hB
theorem add_block (a : Addr) (j : Nat) : (a.add j).block = a.block := by unfold Addr.add; split <;> rfl
theorem LieAt.but {a : Addr} {n c : Nat} {g : Nat → Value} {w X : World} (h : LieAt a n g w) (hB : But c w X) (hne : a.block ≠ c) : LieAt a n g X :=
  ⟨fun j hj => (hB.cell (a.add j) (by rw [add_block]; exact h.2) (by rw [add_block]; exact hne)).trans (h.1 j hj), Nat.lt_of_lt_of_le h.2 hB.size⟩
/-- some cells of a row, set -/
theorem RowAt.part {b n : Nat} {g : Nat → Value} {w : World} (h : RowAt b n g w) (off m : Nat) (u : Nat → Value) (hm : off + m ≤ n) : RowAt b n (fun j => if off ≤ j ∧ j < off + m then u (j - off) else g j) (w.setCells b off (row m u)) := by
  refine ⟨fun j hj => ?_, fun j hj => ?_, ?_⟩
  · show (w.setCells b off (row m u)).cell? ⟨b, j, none⟩ = some (if off ≤ j ∧ j < off + m then u (j - off) else g j)
    by_cases hin : off ≤ j ∧ j < off + m
    · rw [if_pos hin]
      have h1 := World.cell?_setCells_in b (row m u) off w (fun i hi => by
        rw [row_length] at hi
        rw [h.1 (off + i) (by omega)]; rfl) (j - off) (by rw [row_length]; omega)
      rw [show off + (j - off) = j by omega] at h1
      rw [h1]
      congr 1
      have h2 := row_get m u (j - off) (by omega)
      rw [List.getElem?_eq_getElem (by rw [row_length]; omega)] at h2
      exact Option.some.inj h2
    · rw [if_neg hin, World.cell?_setCells_out b (row m u) off w ⟨b, j, none⟩ (fun _ _ => by rw [row_length]; show j < off ∨ off + m ≤ j; omega)]
      exact h.1 j hj
  · rw [World.frozen?_setCells]; exact h.2.1 j hj
  · rw [size_setCells]; exact h.2.2
/-- cells copied into a row -/
theorem wpList_copy_row {P : Program} {w : World} {ops : Array Oper} {rest : List Oper} {o : Oper} {a : Act} {Q : Exit → Act → World → Prop} (hgd : o.guard = none) (d s : Operand) (dT sT : TypeId)
    (ho : o.op = .call { callee := .builtin .copy, args := #[d, s], argTypes := #[dT, sT] }) (elem : TypeId) (hu : P.underlying dT = some (.slice elem)) (hsz : (P.info? elem).map (·.size) = some 1)
    (b n : Nat) (g : Nat → Value) (hR : RowAt b n g w) (off dLen dCap : Nat) (ad : Addr) (sLen sCap : Nat) (hd : a.eval d = .slice (some ⟨b, off, none⟩) dLen dCap) (hs : a.eval s = .slice (some ad) sLen sCap)
    (m : Nat) (u : Nat → Value) (hn : m = Nat.min sLen dLen) (hsrc : ∀ j, j < m → w.cell? (ad.add j) = some (u j)) (hfit : off + m ≤ n) (h1 : ∀ j, j < m → (u j).oneCell' = true)
    (h : wpList P ops Q rest (a.put o.dst (goInt m)) (w.setCells b off (row m u))) : wpList P ops Q (o :: rest) a w := by
  refine wpList_plain hgd fun K hK => ?_
  have hrun := run_copy_cells (P := P) w dT sT o.type elem b off dLen dCap ad sLen sCap (row m u) hu hsz (by rw [row_length]; exact hn) (fun j v hv => by obtain ⟨hj, rfl⟩ := row_some hv; exact hsrc j hj)
    (fun j hj => by rw [row_length] at hj; rw [hR.1 (off + j) (by omega)]; rfl) (fun j hj => by rw [row_length] at hj; exact hR.2.1 (off + j) (by omega)) (fun v hv => by
      obtain ⟨j, hj, rfl⟩ := List.mem_map.1 hv
      exact h1 j (by simpa using hj))
  rw [row_length] at hrun
  unfold Oper.wp
  simp [execOp, ho, resolve, invoke, builtin, hd, hs, hrun, Result.andThen]
  exact hK _ _ h
/-- a whole array, loaded in a region that draws its order -/
theorem loadQ {P : Program} {W : World} {K : Act → Prop} {op : Oper} {a : Act} (t : TypeId) (x : Operand) (b off n : Nat) (g : Nat → Value) {d : TypeDesc} (ho : op.op = .load t x) (hx : a.eval x = .pointer (some ⟨b, off, none⟩)) (hc : ∀ w', Ext W w' → w'.rangeAt b off (row n g))
    (hu : P.underlying t = some d) (hd : d.isRow = true) (hi : (P.info? t).map (·.size) = some n)
    (h : K (a.put op.dst (.agg (row n g).toArray))) : op.quiet P a (fun w' => ∃ k : Kept (Ext W), w' = k.w) K :=
  ⟨_, fun w hw => by
    obtain ⟨k, rfl⟩ := hw
    unfold Oper.quietAt execOp
    simp only [ho, hx, Instr.loadAt, Instr.sureAddr, Sem.run_bind, Sem.run_pure, Result.andThen_ok, run_loadVar_mid (P := P) k.w b off t (row n g) _ (hc _ k.ok) hu hd (by rw [row_length]; exact hi)]
    exact ⟨rfl, rfl⟩, h⟩
end Go.Proofs.YtenlokmoijeehaaDoor
