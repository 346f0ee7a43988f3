/-
  A disk's New; a block made of some bytes, again and again. Parts of rows; when arrays of bytes within structs are the same; no word of the program.
-/
import Derived.Test.YtiakkclabgelfaaDoorQc1
import Derived.Test.YtiakkclabgelfaaDoorQc31
import Derived.Test.YtiakkclabgelfaaDoorQc10
namespace Go.Proofs.YtiakkclabgelfaaDoor
set_option maxRecDepth 20000
open Go.RowKit Go.BigFrame Go.Maps
def newS (N : Nat) : DSt := ⟨N, fun _ _ => 0#8, fun _ => 0, fun _ _ _ => 0#8, -1⟩
theorem alloc_at (w : World) (o : Obj) : (w.alloc o).heap[w.heap.size]? = some o := by
  show (w.heap.push o)[w.heap.size]? = _
  simp
set_option maxRecDepth 20000 in
set_option maxHeartbeats 4000000 in
theorem dnew (n : Nat) (h1 : 1 ≤ n) (h2 : n ≤ 4096) (w : World) : Calls Tryd.prog 14 #[.int .i64 (n : Int)] w fun e w' => ∃ p F M, e = .returned (.tuple #[.pointer (some ⟨p, 0, none⟩), .int .i64 0]) ∧ DkM F p (newS n) 0 M w' ∧ Ext w w' ∧ ∀ i, F i → w.heap.size ≤ i := by
  have i1 : ¬ (n : Int) < 1 := by omega
  have i2 : ¬ (4096 : Int) < (n : Int) := by omega
  go_enter Tryd.func14, Tryd.ntmps14
  go_upto_region 3 with (fail)
  refine wp_region_lit ?_
  refine wpList_made w Tryd.underlying39 info5D rfl (.const (.int .i64 512)) (.const (.int .i64 512)) rfl 512 rfl rfl (by decide) ?_
  intro w1 hO1 hX1
  simp only [zp0, zp1, zp2, zp3]
  refine wpList_run rfl (.slice (some ⟨w.heap.size, 0, none⟩) 512 512) (by simp [go_sem]) ?_
  simp only [zp0, zp1, zp2, zp3]
  go_upto_region 4 with (fail)
  have hX2 : Ext w1 (w1.alloc (.cells #[.slice (some ⟨w.heap.size, 0, none⟩) 512 512] 39)) := (Below.refl _ _).alloc (Nat.le_refl _) _
  have hcb2 := (hO1.ext hX2).cb
  have hE2 := Ext.trans hX1 hX2
  have hc2 : (w1.alloc (.cells #[.slice (some ⟨w.heap.size, 0, none⟩) 512 512] 39)).cell? ⟨w1.heap.size, 0, none⟩ = some (.slice (some ⟨w.heap.size, 0, none⟩) 512 512) := by rw [World.cell?_alloc_new]; rfl
  have hl2 : w1.heap.size < (w1.alloc (.cells #[.slice (some ⟨w.heap.size, 0, none⟩) 512 512] 39)).heap.size := by simp
  refine wp_region_lit ?_
  refine wpList_run rfl (.slice (some ⟨w.heap.size, 0, none⟩) 512 512) (by simp [go_sem]) ?_
  simp only [zp0, zp1, zp2, zp3]
  refine wpList_to rfl (.slice (some ⟨w1.heap.size, 0, none⟩) 1 1) (w1.alloc (.cells #[.slice (some ⟨w.heap.size, 0, none⟩) 512 512] 39)) (by simp [go_sem]) ?_
  simp only [zp0, zp1, zp2, zp3]
  generalize w1.alloc (.cells #[.slice (some ⟨w.heap.size, 0, none⟩) 512 512] 39) = w2 at *
  have krp := hideit (repeat_one w1.heap.size 1 (.slice (some ⟨w.heap.size, 0, none⟩) 512 512) rfl n h1 h2 w2 hc2 hl2)
  refine wpList_run rfl (.int .i64 (n : Int)) (by simp [go_sem]) ?_
  simp only [zp0, zp1, zp2, zp3]
  refine wpList_call rfl (by simp [go_sem]) ((krp.out).mono ?_)
  rintro e w3 ⟨rfl, hR3⟩
  refine ⟨_, rfl, ?_⟩
  simp only [zp0, zp1, zp2, zp3]
  have hmm := @run_makeMap Tryd.prog
  have hM4 : MapAt Tryd.prog 3 w3.heap.size 0 (fun _ => none) (w3.alloc (.map #[] 0)) := map_made w3
  have hX4 : Ext w3 (w3.alloc (.map #[] 0)) := (Below.refl _ _).alloc (Nat.le_refl _) _
  have hs4 : (w3.alloc (.map #[] 0)).heap.size = w3.heap.size + 1 := by simp
  refine wpList_to rfl (.map (some w3.heap.size)) (w3.alloc (.map #[] 0)) (by simp [go_sem, hmm]) ?_
  simp only [zp0, zp1, zp2, zp3]
  clear hmm
  generalize w3.alloc (.map #[] 0) = w4 at *
  refine wpList_run rfl (.agg #[.slice (some ⟨w2.heap.size, 0, none⟩) n n, .map (some w3.heap.size), .int .i64 (-1)]) (by simp [go_sem]) ?_
  simp only [zp0, zp1, zp2, zp3]
  have hX5 : Ext w4 (w4.alloc (.cells #[.slice (some ⟨w2.heap.size, 0, none⟩) n n, .map (some w3.heap.size), .int .i64 (-1)] 64)) := (Below.refl _ _).alloc (Nat.le_refl _) _
  have hP5 : RowAt w4.heap.size 3 (dkV n w2.heap.size n w3.heap.size (-1)) (w4.alloc (.cells #[.slice (some ⟨w2.heap.size, 0, none⟩) n n, .map (some w3.heap.size), .int .i64 (-1)] 64)) := RowAt.newOf w4 3 _ 64 _ fun j hj => by
    rcases (by omega : j = 0 ∨ j = 1 ∨ j = 2) with rfl | rfl | rfl <;> rfl
  have hp5 : (w4.alloc (.cells #[.slice (some ⟨w2.heap.size, 0, none⟩) n n, .map (some w3.heap.size), .int .i64 (-1)] 64)).heap[w4.heap.size]? = some (.cells #[.slice (some ⟨w2.heap.size, 0, none⟩) n n, .map (some w3.heap.size), .int .i64 (-1)] 64) := alloc_at _ _
  have hs5 : (w4.alloc (.cells #[.slice (some ⟨w2.heap.size, 0, none⟩) n n, .map (some w3.heap.size), .int .i64 (-1)] 64)).heap.size = w4.heap.size + 1 := by simp
  refine wpList_to rfl (.pointer (some ⟨w4.heap.size, 0, none⟩)) (w4.alloc (.cells #[.slice (some ⟨w2.heap.size, 0, none⟩) n n, .map (some w3.heap.size), .int .i64 (-1)] 64)) (by simp [go_sem]) ?_
  simp only [zp0, zp1, zp2, zp3]
  generalize w4.alloc (.cells #[.slice (some ⟨w2.heap.size, 0, none⟩) n n, .map (some w3.heap.size), .int .i64 (-1)] 64) = w5 at *
  have hE5 := hideit (Ext.trans (Ext.trans (Ext.trans hE2 hR3.ext) hX4) hX5)
  have hs2 := Below.size hE2
  have hs3 := hR3.row.2.2
  have hdk : Hid (DkM (fun i => i = w2.heap.size ∨ i = w3.heap.size ∨ i = w4.heap.size) w4.heap.size (newS n) 0 ⟨w2.heap.size, n, w3.heap.size, fun _ => .slice (some ⟨w.heap.size, 0, none⟩) 512 512, fun _ => none, fun _ _ => undef⟩ w5) := {
    st := hP5
    n4 := h2
    pk := by show -9223372036854775808 ≤ (-1 : Int) ∧ (-1 : Int) ≤ 9223372036854775807; decide
    ncp := Nat.le_refl _
    sure := ((hR3.row.carry (Ext.trans hX4 hX5)).congr fun j hj => by unfold rpV; rw [if_pos hj])
    mp := hM4.same (Below.block hX5 _ hM4.lt)
    cont := fun i hi => hcb2.ext (Ext.trans (Ext.trans hR3.ext hX4) hX5)
    keys := fun x hx hxn => absurd rfl hxn
    list := fun i hi => .inl ⟨rfl, rfl⟩
    writes := fun i j hi hj => absurd hj (by show ¬ j < 0; omega)
    kcC := fun i hi => Nat.le_refl _
    fp := .inr (.inr rfl)
    fs := .inl rfl
    fm := .inr (.inl rfl)
    fl := fun i v b hi hv => by cases hv
    nb := fun i hi => by
      rcases hi with rfl | rfl | rfl
      · exact ((hR3.is.ext hX4).ext hX5).notB
      · exact map_notB (hM4.same (Below.block hX5 _ hM4.lt))
      · rintro ⟨cur, fz, hb⟩
        rw [hp5] at hb
        injection hb with hb
        injection hb with _ hb
        exact absurd hb (by decide)
    lt := fun i hi => by
      rcases hi with rfl | rfl | rfl <;> omega
    ps := by show w4.heap.size ≠ w2.heap.size; omega
    pm := by show w4.heap.size ≠ w3.heap.size; omega
    sm := by show w2.heap.size ≠ w3.heap.size; omega
    la := fun i v b hi hv => by cases hv
    ll := fun a b v v' c ha hb hne hv => by cases hv }
  have hF5 : Hid (∀ i, (i = w2.heap.size ∨ i = w3.heap.size ∨ i = w4.heap.size) → w.heap.size ≤ i) := fun i hi => by
    rcases hi with rfl | rfl | rfl <;> omega
  clear hP5 hp5 hs5 hX5 hM4 hX4 hs4 hR3 krp hc2 hl2 hcb2 hX2 hO1 hX1 hE2 hs2 hs3
  generalize w4.heap.size = pp at *
  go_wp2
  go_ret2
  exact ⟨_, rfl, _, ⟨_, hdk.out⟩, hE5.out, hF5.out⟩
def blkF (l : Nat) (f : Nat → BitVec 8) (j : Nat) : BitVec 8 := if l = 0 then 0#8 else f (j % l)
def blkK (l : Nat) (f : Nat → BitVec 8) (i j : Nat) : BitVec 8 := if j < i then blkF l f j else 0#8
end Go.Proofs.YtiakkclabgelfaaDoor
namespace Go.Proofs.YtiakkclabgelfaaDoor
open Go.RowKit Go.BigFrame
section
variable {P : Program}
end
end Go.Proofs.YtiakkclabgelfaaDoor
