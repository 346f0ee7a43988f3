/-
  Worlds in which nothing turned of what was there, but one block; plain facts, no word of the program. The small functions on a Hash, for every Hash in every world.
-/
import Derived.Test.YtiakkclabgelfaaDoorQc3
import Derived.Laws.AppendOwn
import Derived.Test.YtiakkclabgelfaaDoorQc1
import Derived.Test.YtiakkclabgelfaaDoorQc5
namespace Go.Proofs.YtiakkclabgelfaaDoor
open Go.RowKit
def But (c : Nat) (w w' : World) : Prop := w.grownBy w' (some c)
theorem But.refl (c : Nat) (w : World) : But c w w := ⟨rfl, rfl, rfl, Nat.le_refl _, fun _ _ _ => rfl⟩
theorem But.trans {c : Nat} {a b d : World} (h : But c a b) (k : But c b d) : But c a d :=
  ⟨k.os.trans h.os, k.tape.trans h.tape, k.output.trans h.output, Nat.le_trans h.size k.size, fun i hi hn => (k.block i (Nat.lt_of_lt_of_le hi h.size) hn).trans (h.block i hi hn)⟩
theorem But.of_ext {c : Nat} {w w' : World} (h : Ext w w') : But c w w' := ⟨Below.os h, Below.tape h, Below.output h, Below.size h, fun i hi _ => Below.block h i hi⟩
theorem But.drew {c : Nat} {w w' : World} (h : But c w w') : But c w w'.drew := h.trans (But.of_ext (Ext.refl w').draw)
theorem But.ext {c : Nat} {w X Y : World} (h : But c w X) (k : Ext X Y) : But c w Y := h.trans (But.of_ext k)
theorem but_setCell (w : World) (c i : Nat) (v : Value) : But c w (w.setCell ⟨c, i, none⟩ v) := by
  have h := (Below.refl 0 w).setCell (p := ⟨c, i, none⟩) (Nat.zero_le _) v
  refine ⟨h.os, h.tape, h.output, h.size, fun k hk hn => ?_⟩
  have h2 : ∀ B, B ≤ c → Below B w (w.setCell ⟨c, i, none⟩ v) := fun B hB => (Below.refl B w).setCell (p := ⟨c, i, none⟩) hB v
  by_cases hkc : k < c
  · exact (h2 c (Nat.le_refl _)).block k hkc
  · have hne : k ≠ c := fun e => hn (by rw [e])
    simp only [World.setCell]
    rw [Array.getElem?_modify]
    simp [Ne.symm hne]
theorem But.set {c : Nat} {w X : World} (h : But c w X) (i : Nat) (v : Value) : But c w (X.setCell ⟨c, i, none⟩ v) := h.trans (but_setCell X c i v)
theorem But.sets {c : Nat} {w : World} : ∀ (vs : List Value) (o : Nat) (X : World), But c w X → But c w (X.setCells c o vs)
  | [], _, _, h => h
  | v :: r, o, X, h => by rw [World.setCells]; exact But.sets r (o + 1) _ (h.set o v)
theorem RowAt.but {b n c : Nat} {g : Nat → Value} {w w' : World} (h : RowAt b n g w) (k : But c w w') (hne : b ≠ c) : RowAt b n g w' :=
  ⟨fun j hj => (World.cell?_of_block (a := ⟨b, j, none⟩) (k.block b h.2.2 (by simpa using hne))).trans (h.1 j hj), fun j hj => (World.frozen?_of_block (a := ⟨b, j, none⟩) (k.block b h.2.2 (by simpa using hne))).trans (h.2.1 j hj), Nat.lt_of_lt_of_le h.2.2 k.size⟩
theorem But.below {B c : Nat} {w w' : World} (h : But c w w') (hc : B ≤ c) (hB : B ≤ w.heap.size) : Below B w w' :=
  ⟨h.os, h.tape, h.output, h.size, fun k hk => h.block k (by omega) (by simp; omega)⟩
theorem Ext.but {c : Nat} {w X Y : World} (h : Ext w X) (k : But c X Y) (hc : w.heap.size ≤ c) : Ext w Y := Below.trans h (k.below hc (Below.size h))
theorem Below.but {B c : Nat} {w X Y : World} (h : Below B w X) (k : But c X Y) (hc : B ≤ c) (hB : B ≤ X.heap.size) : Below B w Y := Below.trans h (k.below hc hB)
theorem But.cell {c : Nat} {w w' : World} (h : But c w w') (a : Addr) (hl : a.block < w.heap.size) (hne : a.block ≠ c) : w'.cell? a = w.cell? a := World.cell?_of_block (h.block a.block hl (by simpa using hne))
theorem But.frozen {c : Nat} {w w' : World} (h : But c w w') (a : Addr) (hl : a.block < w.heap.size) (hne : a.block ≠ c) : w'.frozen? a = w.frozen? a := World.frozen?_of_block (h.block a.block hl (by simpa using hne))
end Go.Proofs.YtiakkclabgelfaaDoor
namespace Go.Proofs.YtiakkclabgelfaaDoor
open Go.RowKit Go.BigFrame
def hv (s : Nat → BitVec 32) (p : Nat → BitVec 8) (n : Nat) (j : Nat) : Value := if j < 8 then wv s j else if j < 72 then yv p (j - 8) else .int .i64 (n : Int)
def HashAt (c : Nat) (s : Nat → BitVec 32) (p : Nat → BitVec 8) (n : Nat) (w : World) : Prop := RowAt c 73 (hv s p n) w
section
variable {c n : Nat} {s : Nat → BitVec 32} {p : Nat → BitVec 8} {w : World}
theorem HashAt.len (h : HashAt c s p n w) : w.cell? ⟨c, 72, none⟩ = some (.int .i64 (n : Int)) := h.1 72 (by decide)
theorem HashAt.state (h : HashAt c s p n w) : w.rangeAt c 0 (row 8 (wv s)) := fun j v hx => by
  obtain ⟨hj, rfl⟩ := row_some hx
  have h1 := h.1 j (by omega)
  rw [show 0 + j = j by omega, h1]
  simp only [hv, if_pos hj]
theorem HashAt.piece (h : HashAt c s p n w) : w.rangeAt c 8 (row 64 (yv p)) := fun j v hx => by
  obtain ⟨hj, rfl⟩ := row_some hx
  have h1 := h.1 (8 + j) (by omega)
  rw [h1]
  simp only [hv, if_neg (show ¬ (8 + j < 8) by omega), if_pos (show 8 + j < 72 by omega), yv, show 8 + j - 8 = j by omega]
end
theorem waiting_any (c n : Nat) (s : Nat → BitVec 32) (p : Nat → BitVec 8) (w : World) (h : HashAt c s p n w) :
    Calls Tryd.prog 90 #[.pointer (some ⟨c, 0, none⟩)] w fun e w' => e = .returned (.int .i64 ((n % 64 : Nat) : Int)) ∧ w' = w := by
  have e0 := h.len
  clear h
  have n0 : (0 : Int) ≤ (n : Int) := by omega
  go_enter Tryd.func90, Tryd.ntmps90
  go_wp2
  go_ret
  exact ⟨ret_int (by omega), rfl⟩
def digF (s : Nat → BitVec 32) (j : Nat) : BitVec 8 := (s (j / 4) >>> (24 - 8 * (j % 4))).setWidth 8
theorem dig_fact (a : BitVec 32) (k : Nat) : (a.toNat : Int) / 2 ^ k % 256 = (((a >>> k).setWidth 8).toNat : Int) := by
  rw [BitVec.toNat_setWidth, BitVec.toNat_ushiftRight, Nat.shiftRight_eq_div_pow]
  simp
set_option maxRecDepth 20000 in
set_option maxHeartbeats 1000000 in
theorem digest_any (s : Nat → BitVec 32) (w : World) :
    Calls Tryd.prog 92 #[.agg (row 8 (wv s)).toArray] w fun e w' => e = .returned (.agg (row 32 (yv (digF s))).toArray) ∧ Below w.heap.size w w' := by
  have hz := zero24
  go_enter Tryd.func92, Tryd.ntmps92
  go_wp2
  go_loopw [5] (fun i wr => ∃ n : Nat, n ≤ 32 ∧ i = .int .i64 n ∧ RowAt w.heap.size 8 (wv s) wr ∧ RowAt (w.heap.size + 1) 32 (yv fun _ => 0#8) wr ∧ RowAt (w.heap.size + 1 + 1) 32 (yv fun j => if j < n then digF s j else 0#8) wr ∧ Below w.heap.size w wr) (fun i _ => 32 - (intOf i).toNat)
  case atStart =>
    refine ⟨0, by omega, rfl, ?_, ?_, ?_, ?_⟩
    · exact ((RowAt.new w 8 (wv s) 132).alloc _).alloc _
    · have := (RowAt.new (w.alloc (Obj.cells (row 8 (wv s)).toArray 132)) 32 (yv fun _ => 0#8) 112).alloc (Obj.cells (row 32 (yv fun _ => 0#8)).toArray 112)
      simpa using this
    · have := RowAt.new ((w.alloc (Obj.cells (row 8 (wv s)).toArray 132)).alloc (Obj.cells (row 32 (yv fun _ => 0#8)).toArray 112)) 32 (yv fun _ => 0#8) 112
      exact RowAt.congr (g := yv fun _ => 0#8) (by simpa using this) fun j _ => by simp [yv]
    · exact (((Below.refl _ _).alloc (Nat.le_refl _) _).alloc (by simp) _).alloc (by simp; omega) _
  case round =>
    obtain ⟨n, hn, rfl, h1, h2, h3, h4⟩ := hrel
    by_cases hlt : n < 32
    · have H1 := hideit h1
      have H2 := hideit h2
      have H3 := hideit h3
      have H4 := hideit h4
      have e1 := h1.1 (n / 4) (by omega)
      have e3 := h3.1 n hlt
      have g3 := h3.2.1 n hlt
      clear h1 h2 h3 h4
      simp only [wv] at e1
      have i0 : (0 : Int) ≤ (n : Int) := by omega
      have i1 : (n : Int) < 32 := by omega
      have b1 := (s (n / 4)).isLt
      go_wp2
      rw [dig_fact]
      refine ⟨⟨n + 1, by omega, by go_num, H1.out.other _ _ (by simp; omega), H2.out.other _ _ (by simp), (H3.out.set n _).congr fun j _ => ?_, H4.out.setCell (by simp; omega) _⟩, by simp [intOf]; omega⟩
      simp only [yv]
      by_cases e : j = n
      · subst e; rw [if_pos rfl, if_pos (by omega)]; rfl
      · rw [if_neg e]
        by_cases h : j < n
        · rw [if_pos h, if_pos (by omega)]
        · rw [if_neg h, if_neg (by omega)]
    · obtain rfl : n = 32 := by omega
      have HR := hideit (h3.congr (g' := yv (digF s)) fun j hj => by simp only [yv]; rw [if_pos hj])
      have HR0 := hideit h2
      have hB := hideit h4
      clear h1 h2 h3 h4
      go_wp2_with (first | (refine wpList_load_mid rfl 112 (.tmp 3) rfl _ 0 rfl (row 32 (yv (digF s))) _ HR.out.range Tryd.underlying112 rfl (by rw [row_length]; exact info24) ?_) | (refine wpList_store_mid rfl 112 (.tmp 2) (.tmp 21) rfl _ 0 (row 32 (yv (digF s))).toArray rfl rfl (by rw [row_size]; exact HR0.out.there) (by rw [row_size]; exact info24) (row_one fun _ _ => rfl) ?_))
      exact bodyPost_ret (ret_row Tryd.results92 rfl (HR0.out.cells (g' := yv (digF s))) Tryd.underlying112 rfl info24) rfl ⟨rfl, below_setCells _ (by omega) _ _ _ hB.out⟩
set_option maxRecDepth 20000 in
set_option maxHeartbeats 1000000 in
theorem new_any (w : World) : Calls Tryd.prog 74 #[] w fun e w' => ∃ c, w.heap.size ≤ c ∧ e = .returned (.pointer (some ⟨c, 0, none⟩)) ∧ HashAt c fT (fun _ => 0#8) 0 w' ∧ Ext w w' := by
  have hb : ∀ X, (Instr.build 136 #[(0, .agg (row 8 (wv fT)).toArray)]).run Tryd.prog X = .ok (.agg (row 73 (hv fT (fun _ => 0#8) 0)).toArray) X := fun X => by kernel_rfl
  have hf := first_any
  obtain ⟨f, hfe⟩ : ∃ f, f = fT := ⟨_, rfl⟩
  rw [← hfe] at hf hb ⊢
  clear hfe
  replace hf := hideit hf
  go_enter Tryd.func74, Tryd.ntmps74
  go_upto_region 1 with (fail)
  refine wp_region_lit ?_
  refine wpList_call rfl (by simp [go_sem]) ((hf.out _).mono ?_)
  rintro e w2 ⟨rfl, hw2⟩
  refine ⟨_, rfl, ?_⟩
  refine wpList_build rfl 136 [(0, .tmp 1)] rfl _ (hb _) ?_
  simp only [zp0, zp1, zp2, zp3]
  go_wp2
  go_ret
  exact ⟨w2.heap.size, hw2.size, rfl, RowAt.new w2 73 _ 136, Ext.trans hw2 ((Below.refl _ _).alloc (Nat.le_refl _) _)⟩
end Go.Proofs.YtiakkclabgelfaaDoor
