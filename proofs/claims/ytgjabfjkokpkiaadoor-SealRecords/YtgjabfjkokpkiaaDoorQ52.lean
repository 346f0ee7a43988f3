/-
  What must come of every program. A record changes no other one.
-/
import Derived.Test.YtgjabfjkokpkiaaDoorQ1
import Derived.Test.YtgjabfjkokpkiaaDoorQ50
import Derived.Test.YtgjabfjkokpkiaaDoorQ51
import Derived.Test.YtgjabfjkokpkiaaDoorQ47
import Derived.Test.YtgjabfjkokpkiaaDoorQ44
import Derived.Test.YtgjabfjkokpkiaaDoorQ41
import Derived.Test.YtgjabfjkokpkiaaDoorQ23
namespace Go.Proofs.YtgjabfjkokpkiaaDoor
open Go.RowKit Go.BigFrame
set_option linter.unusedVariables false
set_option maxRecDepth 20000
def bS (l : Nat) (b : Nat → BitVec 8) : ByteArray := bstr l fun j => ((b j).toNat : Int)
theorem convS (v : Value) (l : Nat) (b : Nat → BitVec 8) (w : World) (h : BV v l b w) : (convert 22 9 v).run Tryd.prog w = .ok (.string (bS l b)) w := convV v l b w h
theorem bS_congr {l : Nat} {b c : Nat → BitVec 8} (h : ∀ j, j < l → b j = c j) : bS l b = bS l c := bstr_congr fun j hj => by rw [h j hj]
theorem zero50 (w : World) : (zeroValue 50).run Tryd.prog w = .ok (.agg (row 65 (ekV 0 (fun _ => 0#8) fun _ => 0#8)).toArray) w := by kernel_rfl
theorem blt1 (w : World) : (Instr.build 31 #[(0, .int .u8 1)]).run Tryd.prog w = .ok (.agg (row 32 (yv exD)).toArray) w := by kernel_rfl
theorem blt2 (w : World) : (Instr.build 31 #[(0, .int .u8 2)]).run Tryd.prog w = .ok (.agg (row 32 (yv exT)).toArray) w := by kernel_rfl
def exK (j : Nat) : BitVec 8 := if j = 0 then 7#8 else 0#8
theorem blt7 (w : World) : (Instr.build 31 #[(0, .int .u8 7)]).run Tryd.prog w = .ok (.agg (row 32 (yv exK)).toArray) w := by kernel_rfl
theorem bltk (w : World) : (Instr.build 50 #[(0, .int .i64 3), (1, .agg (row 32 (yv exD)).toArray), (2, .agg (row 32 (yv exT)).toArray)]).run Tryd.prog w = .ok (.agg (row 65 (ekV 3 exD exT)).toArray) w := by kernel_rfl
theorem bltr (w : World) : (Instr.build 39 #[(0, .int .u64 4)]).run Tryd.prog w = .ok (.agg (row 35 (rtV 4#64 false ((0 : Nat) : Int) fun _ => 0#8)).toArray) w := by kernel_rfl
def TBy (v : Value) (l : Nat) (f : Nat → BitVec 8) (X : World) : Prop := ∃ a c C m, v = .slice (some a) l c ∧ l ≤ c ∧ LieAt a l (yv f) X ∧ X.heap[a.block]? = some (.cells C 5 m)
theorem TBy.bv {v : Value} {l : Nat} {f : Nat → BitVec 8} {X : World} (h : TBy v l f X) : BV v l f X := by
  obtain ⟨a, c, C, m, h1, h2, h3, _⟩ := h
  exact .inr ⟨a, c, h1, h2, h3⟩
theorem TBy.mv {b0 : Nat} {v : Value} {l : Nat} {f : Nat → BitVec 8} {X Y : World} (h : TBy v l f X) (k : MvT b0 X Y) : TBy v l f Y := by
  obtain ⟨a, c, C, m, h1, h2, h3, h4⟩ := h
  obtain ⟨m', h5⟩ := mv_bytes k h4
  exact ⟨a, c, C, m', h1, h2, ⟨fun j hj => mv_cell k _ _ (h3.1 j hj), Nat.lt_of_lt_of_le h3.2 k.2.2.2.1⟩, h5⟩
theorem OwnB.tby {base : Nat} {v : Value} {l : Nat} {f : Nat → BitVec 8} {X : World} (h : OwnB base 5 v l (yv f) X) (hl : 0 < l) : TBy v l f X := by
  obtain ⟨b, cap, h1, _, h3, _, h5⟩ := h.lies hl
  rcases h.2 with ⟨_, h2⟩ | ⟨b', cap', cur, h6, _, hg, _⟩
  · omega
  · rw [h1] at h6
    injection h6 with h6
    injection h6 with h6
    injection h6 with h6
    subst h6
    exact ⟨⟨b, 0, none⟩, cap, _, _, h1, h3, RowAt.lie h5 l (Nat.le_refl _), hg⟩
theorem lie_set {a : Addr} {l p o : Nat} {g : Nat → Value} {X : World} {vs : List Value} (h : LieAt a l g X) (hp : a.block ≠ p) : LieAt a l g (X.setCells p o vs) :=
  h.but (But.sets vs o X (But.refl p X)) hp
def mkX (B t z : Nat) (Z : Array Value) (i : Nat) (v : Value) (X : World) : Prop :=
  if i = t then ∃ g, v = .slice (some ⟨g, 0, none⟩) 1 1 ∧ B ≤ g ∧ ∃ m, X.heap[g]? = some (.cells #[.int .u8 120] 5 m)
  else ∃ p, v = .pointer (some ⟨p, 0, none⟩) ∧ B ≤ p ∧ X.heap[p]? = some (.cells Z z (0, 0))
theorem mkX_cl (B t z : Nat) (Z : Array Value) (hz : z ≠ 5) (i : Nat) (v : Value) : Cl (MvT B) (mkX B t z Z i v) := fun X Y h k => by
  unfold mkX at h ⊢
  by_cases e : i = t
  · rw [if_pos e] at h ⊢
    obtain ⟨g, h1, h2, m, h3⟩ := h
    exact ⟨g, h1, h2, mv_bytes k h3⟩
  · rw [if_neg e] at h ⊢
    obtain ⟨p, h1, h2, h3⟩ := h
    exact ⟨p, h1, h2, mv_plain k hz h3⟩
theorem x_bv {X : World} {g : Nat} {m : Nat × Nat} (h : X.heap[g]? = some (.cells #[.int .u8 120] 5 m)) : BV (.slice (some ⟨g, 0, none⟩) 1 1) 1 exX X :=
  .inr ⟨⟨g, 0, none⟩, 1, rfl, Nat.le_refl _, fun j hj => by
    obtain rfl : j = 0 := by omega
    rw [add_off]
    unfold World.cell?
    simp only [h]
    rfl, (Array.getElem?_eq_some_iff.1 h).1⟩
theorem mv_row {b0 c n : Nat} {g : Nat → Value} {X Y : World} (h : RowAt c n g X) (k : MvT b0 X Y) : Y.rangeAt c 0 (row n g) := fun j x hx => by
  obtain ⟨hj, rfl⟩ := row_some hx
  rw [Nat.zero_add]
  exact mv_cell k _ _ (h.1 j hj)
theorem blk_x : blkF 1 exX = exX := rfl
theorem rc_ep : leN (rcF 3 5 exT (seF exD 5 exX) 512) 4 = n4 3 := leN_by _ 4 (by omega) (fun j hj => by unfold rcF; rw [if_pos hj]; rfl) (by decide)
theorem h9_ok : okH (hSe 9) := by
  unfold okH okA okP hSe
  decide
theorem ep_any (w : World) : Calls Tryd.prog 22 #[.agg (row 64 (yv (rcF 3 5 exT (seF exD 5 exX) 512))).toArray] w fun e w' => e = .returned (.tuple #[.int .i64 3, .int .i64 0]) ∧ Ext w w' := by
  have h := ep_ok (rcF 3 5 exT (seF exD 5 exX) 512) w (by rw [rc_ep]; decide)
  rw [rc_ep] at h
  exact h
theorem bs_eq : bS 512 (opF exD 5 (seF exD 5 exX)) = bS 512 exX := bS_congr fun j hj => op_se exD 5 exX j hj
set_option maxRecDepth 20000 in
set_option maxHeartbeats 4000000 in
theorem lives_any (w : World) (hC : TabC w) : Calls Tryd.prog 11 #[] w fun e w' => e = .returned (.bool true) ∧ Ext w w' := by
  have hE := hideit (Ext.refl w)
  go_enter Tryd.func11, Tryd.ntmps11
  go_upto_region 0 with (fail)
  refine wp_region_lit ?_
  refine xm [some (.bool false)] (by kernel_rfl) (by simp [xr, go_sem]) ?_
  simp only [xw, p0, p1, p2]
  go_upto_region 1 with (fail)
  refine wp_region_lit ?_
  refine wpList_run rfl (.agg (row 32 (yv exD)).toArray) (xbuild 31 [(0, .const (.int .u8 1))] rfl _ (blt1 _)) ?_
  simp only [zp0, zp1, zp2, zp3]
  refine wpList_run rfl (.agg (row 32 (yv exT)).toArray) (xbuild 31 [(0, .const (.int .u8 2))] rfl _ (blt2 _)) ?_
  simp only [zp0, zp1, zp2, zp3]
  refine wpList_run rfl (.agg (row 65 (ekV 3 exD exT)).toArray) (xbuild 50 [(0, .const (.int .i64 3)), (1, .tmp 15), (2, .tmp 16)] rfl _ (bltk _)) ?_
  simp only [zp0, zp1, zp2, zp3]
  have A0 := hideit (RowAt.new w 65 (ekV 0 (fun _ => 0#8) (fun _ => 0#8)) 50)
  have AE := hideit (Below.alloc hE.out (Below.size hE.out) (.cells (row 65 (ekV 0 (fun _ => 0#8) (fun _ => 0#8))).toArray 50))
  have AB := hideit (Below.size hE.out)
  refine wpList_to rfl (.pointer (some ⟨w.heap.size, 0, none⟩)) (w.alloc (.cells (row 65 (ekV 0 (fun _ => 0#8) (fun _ => 0#8))).toArray 50)) (xalloc 50 (row 65 (ekV 0 (fun _ => 0#8) (fun _ => 0#8))).toArray rfl (zero50 w)) ?_
  simp only [zp0, zp1, zp2, zp3]
  generalize w.alloc (.cells (row 65 (ekV 0 (fun _ => 0#8) (fun _ => 0#8))).toArray 50) = x2 at A0 AE ⊢
  obtain ⟨z1, ez1⟩ : ∃ b, b = w.heap.size := ⟨_, rfl⟩
  replace AB : Hid (w.heap.size ≤ z1) := by rw [ez1]; exact AB.out
  rw [← ez1] at A0  ⊢
  clear ez1
  have Hz1 := A0
  clear A0
  replace hE := AE
  clear AE
  have ABz1 := AB
  clear AB
  have N0 := hideit (Hz1.out.cells (g' := ekV 3 exD exT))
  have NE := hideit (below_setCells z1 (ABz1.out) (row 65 (ekV 3 exD exT)) 0 _ hE.out)
  refine xst rfl (x2.setCells z1 0 (row 65 (ekV 3 exD exT))) (xstore 50 (.tmp 1) (.tmp 17) rfl z1 65 _ (ekV 3 exD exT) rfl rfl Hz1.out inf50 (fun j _ => ek_one _ _ _ j)) ?_
  simp only [Act.put]
  generalize x2.setCells z1 0 (row 65 (ekV 3 exD exT)) = x3 at N0 NE ⊢
  replace Hz1 := N0
  replace hE := NE
  clear N0 NE
  obtain ⟨W, hW⟩ : ∃ W, W = x3.drew := ⟨_, rfl⟩
  have hYW : Ext x3 W := by rw [hW]; exact (Ext.refl _).draw
  have hEW := hideit (Ext.trans hE.out hYW)
  have K1 := hideit (Hz1.out.carry hYW)
  have TC := hideit (hC.ext hEW.out)
  clear Hz1 hE hYW
  go_upto_region 2 with (fail)
  refine wp_region_ladm (MvT W.heap.size) (fun X => MvT W.heap.size W X) (mkX W.heap.size 1 23 (row 64 (yv fun _ => 0#8)).toArray) [] [11] [(0, 0), (2, 1), (1, 2), (1, 3), (1, 4), (0, 5), (0, 6), (0, 7), (0, 8), (2, 9), (0, 10), (1, 11), (0, 12)] (by kernel_rfl) (by kernel_rfl) (by decide +kernel) (by decide +kernel) (by decide +kernel) (by decide +kernel) (mkX_cl _ _ _ _ (by decide)) (fun _ _ h k => mv_trans h k) (by rw [← hW]; exact mv_ext (Ext.refl _)) ?_
  refine wpQ_f _ (.agg (row 65 (ekV 3 exD exT)).toArray) rfl rfl (fun X hX => xload 50 (.tmp 1) rfl z1 0 65 _ rfl (mv_row K1.out hX) Tryd.underlying50 rfl inf50) ?_
  simp only [List.getElem_toArray, List.getElem_cons_zero, Act.put, List.setIfInBounds_toArray, List.set_cons_zero, List.set_cons_succ]
  refine wpQ_m _ rfl rfl (fun X hX => ⟨.slice (some ⟨X.heap.size, 0, none⟩) 1 1, X.alloc (.cells #[.int .u8 120] 5), by simp [go_sem], ⟨X.heap.size, rfl, hX.2.2.2.1, (0, 0), heap_new _ _ _⟩, mv_ext ((Below.refl _ _).alloc (Nat.le_refl _) _)⟩) ?_
  rintro v2 ⟨_, -, g2, rfl, -⟩
  simp only [zp4, zp5, zp6, zp0, zp1, zp2, zp3]
  refine wpQ_to _ rfl rfl fun X hX => ?_
  obtain ⟨hX1, g', f3, hg', m, hm⟩ := hX
  injection f3 with f3
  injection f3 with f3
  injection f3 with f3
  subst f3
  obtain ⟨Y, hcv, hmv⟩ := conv_mv (n := 1) hm hg'
  refine ⟨.slice (some ⟨g2, 0, none⟩) 1 1, Y, by simp [go_sem, hcv], fun Z => MvT W.heap.size W Z ∧ mkX W.heap.size 1 23 (row 64 (yv fun _ => 0#8)).toArray 1 (.slice (some ⟨g2, 0, none⟩) 1 1) Z, ⟨mv_trans hX1 hmv, mkX_cl _ _ _ _ (by decide) 1 _ _ _ ⟨g2, rfl, hg', m, hm⟩ hmv⟩, .inr (.inr ⟨fun Z hZ => hZ, hmv, fun A C hA k => ⟨mv_trans hA.1 k, mkX_cl _ _ _ _ (by decide) 1 _ _ _ hA.2 k⟩⟩), ?_⟩
  clear hcv hmv hm hX1
  simp only [zp4, zp5, zp6, zp0, zp1, zp2, zp3]
  refine wpQ_call _ rfl rfl (fun X hX => by simp [go_sem]) (fun X hX => (blk512_any (some ⟨g2, 0, none⟩) 1 1 exX X (by
    obtain ⟨hX1, g', f3, hg', m, hm⟩ := hX
    injection f3 with f3
    injection f3 with f3
    injection f3 with f3
    subst f3
    exact x_bv hm) (by decide)).mono ?_)
  rintro e3 X3 ⟨z3, rfl, hz3, hR3, hX3⟩
  rw [blk_x] at hR3
  refine ⟨_, rfl, fun Z => (MvT W.heap.size W Z ∧ mkX W.heap.size 1 23 (row 64 (yv fun _ => 0#8)).toArray 1 (.slice (some ⟨g2, 0, none⟩) 1 1) Z) ∧ BV (.slice (some ⟨z3, 0, none⟩) 512 512) 512 exX Z, ⟨⟨mv_trans hX.1 (mv_ext hX3), mkX_cl _ _ _ _ (by decide) 1 _ _ _ hX.2 (mv_ext hX3)⟩, .inr ⟨⟨z3, 0, none⟩, 512, rfl, Nat.le_refl _, RowAt.lie hR3 512 (Nat.le_refl _)⟩⟩, .inr (.inr ⟨fun Z hZ => hZ.1, mv_ext hX3, fun A C hA k => ⟨⟨mv_trans hA.1.1 k, mkX_cl _ _ _ _ (by decide) 1 _ _ _ hA.1.2 k⟩, hA.2.mv k⟩⟩), ?_⟩
  clear hz3 hR3 hX3
  simp only [zp4, zp5, zp6, zp0, zp1, zp2, zp3]
  refine wpQ_call _ rfl rfl (fun X hX => by simp [go_sem]) (fun X hX => (seal_ok 3 5 exD exT (.slice (some ⟨z3, 0, none⟩) 512 512) exX X hX.2 (TC.out.mv hX.1.1) (by decide) (by decide) (by decide)).mono ?_)
  rintro e4 X4 ⟨v4, rfl, hO4, hX4⟩
  refine ⟨_, rfl, fun Z => ((MvT W.heap.size W Z ∧ mkX W.heap.size 1 23 (row 64 (yv fun _ => 0#8)).toArray 1 (.slice (some ⟨g2, 0, none⟩) 1 1) Z) ∧ BV (.slice (some ⟨z3, 0, none⟩) 512 512) 512 exX Z) ∧ TBy v4 512 (seF exD 5 exX) Z, ⟨⟨⟨mv_trans hX.1.1 (mv_ext hX4), mkX_cl _ _ _ _ (by decide) 1 _ _ _ hX.1.2 (mv_ext hX4)⟩, hX.2.ext hX4⟩, hO4.tby (by decide)⟩, .inr (.inr ⟨fun Z hZ => hZ.1, mv_ext hX4, fun A C hA k => ⟨⟨⟨mv_trans hA.1.1.1 k, mkX_cl _ _ _ _ (by decide) 1 _ _ _ hA.1.1.2 k⟩, hA.1.2.mv k⟩, hA.2.mv k⟩⟩), ?_⟩
  clear hO4 hX4
  simp only [zp4, zp5, zp6, zp0, zp1, zp2, zp3]
  refine wpQ_f _ (.tuple #[v4, .agg (row 64 (yv (rcF 3 5 exT (seF exD 5 exX) 512))).toArray, .int .i64 0]) rfl rfl (fun X hX => by simp [go_sem]) ?_
  simp only [zp4, zp5, zp6, zp0, zp1, zp2, zp3]
  refine wpQ_f _ (v4) rfl rfl (fun X hX => by simp [go_sem]) ?_
  simp only [zp4, zp5, zp6, zp0, zp1, zp2, zp3]
  refine wpQ_f _ (.agg (row 64 (yv (rcF 3 5 exT (seF exD 5 exX) 512))).toArray) rfl rfl (fun X hX => by simp [go_sem]) ?_
  simp only [zp4, zp5, zp6, zp0, zp1, zp2, zp3]
  refine wpQ_f _ (.int .i64 0) rfl rfl (fun X hX => by simp [go_sem]) ?_
  simp only [zp4, zp5, zp6, zp0, zp1, zp2, zp3]
  refine wpQ_m _ rfl rfl (fun X hX => ⟨.pointer (some ⟨X.heap.size, 0, none⟩), X.alloc (.cells (row 64 (yv fun _ => 0#8)).toArray 23), xalloc 23 _ rfl (zero23 _), ⟨X.heap.size, rfl, hX.2.2.2.1, heap_new _ _ _⟩, mv_ext ((Below.refl _ _).alloc (Nat.le_refl _) _)⟩) ?_
  rintro v9 ⟨_, -, p, rfl, -⟩
  simp only [zp4, zp5, zp6, zp0, zp1, zp2, zp3]
  refine wpQ_f _ (v4) rfl rfl (fun X hX => by simp [go_sem]) ?_
  simp only [zp4, zp5, zp6, zp0, zp1, zp2, zp3]
  refine wpQ_st _ rfl rfl fun X hX => ?_
  obtain ⟨⟨hX8, hT⟩, p', f5, hp, hm⟩ := hX
  injection f5 with f5
  injection f5 with f5
  injection f5 with f5
  subst f5
  have EX : Ext W X := mv_back (Ext.refl W) (Nat.le_refl _) hX8.1.1
  have N0 := hideit ((row_heap hm).cells (g' := yv (rcF 3 5 exT (seF exD 5 exX) 512)))
  have NE := hideit (below_setCells p hp (row 64 (yv (rcF 3 5 exT (seF exD 5 exX) 512))) 0 _ EX)
  have NT : Hid (BV v4 512 (seF exD 5 exX) (X.setCells p 0 (row 64 (yv (rcF 3 5 exT (seF exD 5 exX) 512))))) := by
    obtain ⟨a, c, C, m, h1, h2, h3, h4⟩ := hT
    refine .inr ⟨a, c, h1, h2, lie_set h3 fun q => ?_⟩
    rw [q, hm] at h4
    injection h4 with h4
    injection h4 with _ h5
    cases h5
  refine ⟨X.setCells p 0 (row 64 (yv (rcF 3 5 exT (seF exD 5 exX) 512))), xstore 23 (.tmp 3) (.tmp 25) rfl p 64 _ (yv (rcF 3 5 exT (seF exD 5 exX) 512)) rfl rfl (row_heap hm) inf23 (fun _ _ => rfl), fun Y => Y = X.setCells p 0 (row 64 (yv (rcF 3 5 exT (seF exD 5 exX) 512))), rfl, .inr (.inl ⟨by simp, fun Z hZ => by rw [hZ]; exact mv_ext NE.out⟩), ?_⟩
  simp only [List.getElem_toArray, List.getElem_cons_zero, List.getElem_cons_succ, Act.put]
  refine wpQ_f _ (.int .i64 0) rfl rfl (fun X hX => by simp [go_sem]) ?_
  simp only [zp4, zp5, zp6, zp0, zp1, zp2, zp3]
  refine wpQ_nil fun Y hY => ?_
  rw [← hY] at N0 NE NT
  clear hY hm EX hX8 hX hT
  have hE := hideit (Ext.trans hEW.out NE.out)
  have K2 := hideit (K1.out.carry NE.out)
  have RP := N0
  clear N0 NE hEW K1 TC
  clear hW
  go_upto_region 3 with (fail)
  refine wp_region_lit ?_
  refine wpList_run rfl (.agg (row 65 (ekV 3 exD exT)).toArray) (xload 50 (.tmp 1) rfl z1 0 65 _ rfl K2.out.range Tryd.underlying50 rfl inf50) ?_
  simp only [zp0, zp1, zp2, zp3]
  refine xm [some (v4)] (by kernel_rfl) (by simp [xr, go_sem]) ?_
  simp only [xw, p0, p1, p2, p3]
  refine wpList_run rfl (.agg (row 64 (yv (rcF 3 5 exT (seF exD 5 exX) 512))).toArray) (xload 23 (.tmp 3) rfl p 0 64 _ rfl RP.out.range Tryd.underlying23 rfl inf23) ?_
  simp only [zp0, zp1, zp2, zp3]
  refine wpList_call rfl (by simp [go_sem]) ((open_yes 3 5 exD exT (rcF 3 5 exT (seF exD 5 exX) 512) v4 (seF exD 5 exX) Y NT.out (hC.ext hE.out) (by decide) (by decide) (by decide) (fun _ _ => rfl)).mono ?_)
  rintro e y5 ⟨v5, rfl, hO5, hX5⟩
  refine ⟨_, rfl, ?_⟩
  simp only [zp0, zp1, zp2, zp3]
  replace K2 := hideit (K2.out.carry hX5)
  replace RP := hideit (RP.out.carry hX5)
  replace NT := hideit (NT.out.ext hX5)
  replace hE := hideit (Ext.trans hE.out (hX5))
  have hB5 := hideit hO5.bv
  clear hX5 hO5
  have hY := hideit (Ext.refl y5)
  refine xm [some (.tuple #[v5, .int .i64 0]), some (v5), some (.int .i64 0), some (v5), some (.int .i64 0)] (by kernel_rfl) (by simp [xr, go_sem]) ?_
  simp only [xw, p0, p1, p2, p3]
  go_upto_region 4 with (fail)
  refine wp_region_lit ?_
  refine wpList_run rfl (.agg (row 65 (ekV 3 exD exT)).toArray) (xload 50 (.tmp 1) rfl z1 0 65 _ rfl K2.out.range Tryd.underlying50 rfl inf50) ?_
  simp only [zp0, zp1, zp2, zp3]
  refine xm [some (v4)] (by kernel_rfl) (by simp [xr, go_sem]) ?_
  simp only [xw, p0, p1, p2, p3]
  refine wpList_run rfl (.agg (row 64 (yv (rcF 3 5 exT (seF exD 5 exX) 512))).toArray) (xload 23 (.tmp 3) rfl p 0 64 _ rfl RP.out.range Tryd.underlying23 rfl inf23) ?_
  simp only [zp0, zp1, zp2, zp3]
  refine wpList_call rfl (by simp [go_sem]) ((open_no 3 6 exD exT (rcF 3 5 exT (seF exD 5 exX) 512) v4 (seF exD 5 exX) y5 (NT.out.ext hY.out) (hC.ext (Ext.trans hE.out hY.out)) (by decide) (by decide) (by decide) (fun q => rc_ne (q 4 (by decide)))).mono ?_)
  rintro e y6 ⟨rfl, hX6⟩
  refine ⟨_, rfl, ?_⟩
  simp only [zp0, zp1, zp2, zp3]
  replace K2 := hideit (K2.out.carry hX6)
  replace RP := hideit (RP.out.carry hX6)
  replace hY := hideit (Ext.trans hY.out (hX6))
  clear hX6
  refine xm [some (.tuple #[.slice none 0 0, .int .i64 160]), some (.slice none 0 0), some (.int .i64 160), some (.slice none 0 0), some (.int .i64 160)] (by kernel_rfl) (by simp [xr, go_sem]) ?_
  simp only [xw, p0, p1, p2, p3]
  go_upto_region 5 with (fail)
  refine wp_region_lit ?_
  refine wpList_run rfl (.agg (row 64 (yv (rcF 3 5 exT (seF exD 5 exX) 512))).toArray) (xload 23 (.tmp 3) rfl p 0 64 _ rfl RP.out.range Tryd.underlying23 rfl inf23) ?_
  simp only [zp0, zp1, zp2, zp3]
  refine wpList_call rfl (by simp [go_sem]) ((ep_any y6).mono ?_)
  rintro e y7 ⟨rfl, hX7⟩
  refine ⟨_, rfl, ?_⟩
  simp only [zp0, zp1, zp2, zp3]
  replace K2 := hideit (K2.out.carry hX7)
  replace RP := hideit (RP.out.carry hX7)
  replace hY := hideit (Ext.trans hY.out (hX7))
  clear hX7
  refine xm [some (.tuple #[.int .i64 3, .int .i64 0]), some (.int .i64 3), some (.int .i64 0), some (.int .i64 3), some (.int .i64 0)] (by kernel_rfl) (by simp [xr, go_sem]) ?_
  simp only [xw, p0, p1, p2, p3]
  go_upto_region 6 with (fail)
  refine wp_region_lit ?_
  refine wpList_run rfl (.agg (row 32 (yv exK)).toArray) (xbuild 31 [(0, .const (.int .u8 7))] rfl _ (blt7 _)) ?_
  simp only [zp0, zp1, zp2, zp3]
  refine wpList_call rfl (by simp [go_sem]) ((head_any 9 y7).mono ?_)
  rintro e y4 ⟨rfl, hX5⟩
  refine ⟨_, rfl, ?_⟩
  simp only [zp0, zp1, zp2, zp3]
  replace K2 := hideit (K2.out.carry hX5)
  replace RP := hideit (RP.out.carry hX5)
  replace hY := hideit (Ext.trans hY.out (hX5))
  clear hX5
  refine wpList_run rfl (.agg (row 35 (rtV 4#64 false ((0 : Nat) : Int) (fun _ => 0#8))).toArray) (xbuild 39 [(0, .const (.int .u64 4))] rfl _ (bltr _)) ?_
  simp only [zp0, zp1, zp2, zp3]
  refine wpList_call rfl (by simp [go_sem]) ((rb12_ok exK (hSe 9) 4#64 false 0 (fun _ => 0#8) y4 (hC.ext (Ext.trans hE.out hY.out)) h9_ok (by decide) (by decide)).mono ?_)
  rintro e y8 ⟨x8, rfl, _, hR8, hX8⟩
  refine ⟨_, rfl, ?_⟩
  simp only [zp0, zp1, zp2, zp3]
  replace K2 := hideit (K2.out.carry hX8)
  replace RP := hideit (RP.out.carry hX8)
  replace hY := hideit (Ext.trans hY.out (hX8))
  have hB8 : Hid (BV (.slice (some ⟨x8, 0, none⟩) 512 512) 512 (rkF exK (hSe 9) 4#64 false 0 fun _ => 0#8) y8) := .inr ⟨⟨x8, 0, none⟩, 512, rfl, Nat.le_refl _, RowAt.lie hR8 512 (Nat.le_refl _)⟩
  clear hX8 hR8
  refine xm [some (.tuple #[.slice (some ⟨x8, 0, none⟩) 512 512, .int .i64 0]), some (.slice (some ⟨x8, 0, none⟩) 512 512), some (.int .i64 0), some (.slice (some ⟨x8, 0, none⟩) 512 512), some (.int .i64 0)] (by kernel_rfl) (by simp [xr, go_sem]) ?_
  simp only [xw, p0, p1, p2, p3]
  go_upto_region 7 with (fail)
  refine wp_region_lit ?_
  refine wpList_run rfl (.agg (row 32 (yv exK)).toArray) (xbuild 31 [(0, .const (.int .u8 7))] rfl _ (blt7 _)) ?_
  simp only [zp0, zp1, zp2, zp3]
  refine wpList_call rfl (by simp [go_sem]) ((head_any 9 y8).mono ?_)
  rintro e y6 ⟨rfl, hX7⟩
  refine ⟨_, rfl, ?_⟩
  simp only [zp0, zp1, zp2, zp3]
  replace K2 := hideit (K2.out.carry hX7)
  replace RP := hideit (RP.out.carry hX7)
  replace hB8 := hideit (hB8.out.ext hX7)
  replace hY := hideit (Ext.trans hY.out (hX7))
  clear hX7
  refine xm [some (.slice (some ⟨x8, 0, none⟩) 512 512)] (by kernel_rfl) (by simp [xr, go_sem]) ?_
  simp only [xw, p0, p1, p2, p3]
  refine wpList_call rfl (by simp [go_sem]) ((rr_yes exK (hSe 9) (.slice (some ⟨x8, 0, none⟩) 512 512) 512 (rkF exK (hSe 9) 4#64 false 0 fun _ => 0#8) y6 hB8.out (hC.ext (Ext.trans hE.out hY.out)) (by decide) h9_ok 4#64 false 0 (fun _ => 0#8) (by decide) ⟨by decide, rfl, fun _ _ => rfl⟩).mono ?_)
  rintro e y9 ⟨rfl, hX9⟩
  refine ⟨_, rfl, ?_⟩
  simp only [zp0, zp1, zp2, zp3]
  replace K2 := hideit (K2.out.carry hX9)
  replace RP := hideit (RP.out.carry hX9)
  replace hY := hideit (Ext.trans hY.out (hX9))
  clear hX9 hB8
  refine xm [some (.tuple #[.agg (row 35 (rtV 4#64 false ((0 : Nat) : Int) (fun _ => 0#8))).toArray, .int .i64 0]), some (.agg (row 35 (rtV 4#64 false ((0 : Nat) : Int) (fun _ => 0#8))).toArray), some (.int .i64 0)] (by kernel_rfl) (by simp [xr, go_sem]) ?_
  simp only [xw, p0, p1, p2, p3]
  have A0 := hideit (RowAt.new y9 35 (rtV 0#64 false 0 (fun _ => 0#8)) 39)
  have A1 := hideit (K2.out.alloc (.cells (row 35 (rtV 0#64 false 0 (fun _ => 0#8))).toArray 39))
  have A2 := hideit (RP.out.alloc (.cells (row 35 (rtV 0#64 false 0 (fun _ => 0#8))).toArray 39))
  have AE := hideit (Below.alloc hY.out (Below.size hY.out) (.cells (row 35 (rtV 0#64 false 0 (fun _ => 0#8))).toArray 39))
  have AB := hideit (Below.size hY.out)
  have D0 : Hid (z1 ≠ y9.heap.size) := Nat.ne_of_lt K2.out.2.2
  have D1 : Hid (p ≠ y9.heap.size) := Nat.ne_of_lt RP.out.2.2
  refine wpList_to rfl (.pointer (some ⟨y9.heap.size, 0, none⟩)) (y9.alloc (.cells (row 35 (rtV 0#64 false 0 (fun _ => 0#8))).toArray 39)) (xalloc 39 (row 35 (rtV 0#64 false 0 (fun _ => 0#8))).toArray rfl (zero39 y9)) ?_
  simp only [zp0, zp1, zp2, zp3]
  generalize y9.alloc (.cells (row 35 (rtV 0#64 false 0 (fun _ => 0#8))).toArray 39) = x9 at A0 A1 A2 AE ⊢
  obtain ⟨z8, ez8⟩ : ∃ b, b = y9.heap.size := ⟨_, rfl⟩
  replace AB : Hid (y5.heap.size ≤ z8) := by rw [ez8]; exact AB.out
  rw [← ez8] at A0 D0 D1 ⊢
  clear ez8
  have Hz8 := A0
  clear A0
  replace K2 := A1
  clear A1
  replace RP := A2
  clear A2
  replace hY := AE
  clear AE
  have ABz8 := AB
  clear AB
  have Dz8_0 := D0
  clear D0
  have Dz8_1 := D1
  clear D1
  have N0 := hideit (Hz8.out.cells (g' := rtV 4#64 false ((0 : Nat) : Int) (fun _ => 0#8)))
  have N1 := hideit (K2.out.cellsOther (Ne.symm (Dz8_0.out)) (row 35 (rtV 4#64 false ((0 : Nat) : Int) (fun _ => 0#8))) 0)
  have N2 := hideit (RP.out.cellsOther (Ne.symm (Dz8_1.out)) (row 35 (rtV 4#64 false ((0 : Nat) : Int) (fun _ => 0#8))) 0)
  have NE := hideit (below_setCells z8 (ABz8.out) (row 35 (rtV 4#64 false ((0 : Nat) : Int) (fun _ => 0#8))) 0 _ hY.out)
  refine xst rfl (x9.setCells z8 0 (row 35 (rtV 4#64 false ((0 : Nat) : Int) (fun _ => 0#8)))) (xstore 39 (.tmp 13) (.tmp 58) rfl z8 35 _ (rtV 4#64 false ((0 : Nat) : Int) (fun _ => 0#8)) rfl rfl Hz8.out inf39 (fun j _ => rt_one _ _ _ _ j)) ?_
  simp only [Act.put]
  generalize x9.setCells z8 0 (row 35 (rtV 4#64 false ((0 : Nat) : Int) (fun _ => 0#8))) = x10 at N0 N1 N2 NE ⊢
  replace Hz8 := N0
  replace K2 := N1
  replace RP := N2
  replace hY := NE
  clear N0 N1 N2 NE
  refine xm [some (.int .i64 0)] (by kernel_rfl) (by simp [xr, go_sem]) ?_
  simp only [xw, p0, p1, p2, p3]
  obtain ⟨V, hV⟩ : ∃ V, V = x10.drew := ⟨_, rfl⟩
  have hYV : Ext x10 V := by rw [hV]; exact (Ext.refl _).draw
  have hEV := hideit (Ext.trans (Ext.trans hE.out hY.out) hYV)
  have Z1 := hideit (Hz8.out.carry hYV)
  have B5 := hideit (hB5.out.ext (Ext.trans hY.out hYV))
  clear hE hY hYV
  go_upto_region 8 with (fail)
  refine wp_region_ladm (MvT V.heap.size) (fun X => MvT V.heap.size V X) (mkX V.heap.size 29 999 #[]) [] [] [(0, 0), (0, 1), (0, 2), (0, 3), (0, 4), (0, 5), (0, 6), (0, 7), (0, 8), (0, 9), (0, 10), (0, 11), (0, 12), (0, 13), (0, 14), (0, 15), (0, 16), (0, 17), (0, 18), (0, 19), (0, 20), (0, 21), (0, 22), (0, 23), (0, 24), (0, 25), (0, 26), (0, 27), (0, 28), (2, 29), (1, 30), (1, 31), (3, 32), (0, 33), (0, 34), (0, 35), (0, 36), (0, 37), (0, 38), (0, 39), (0, 40)] (by kernel_rfl) (by kernel_rfl) (by decide +kernel) (by decide +kernel) (by decide +kernel) (by decide +kernel) (mkX_cl _ _ _ _ (by decide)) (fun _ _ h k => mv_trans h k) (by rw [← hV]; exact mv_ext (Ext.refl _)) ?_
  refine wpQ_f _ (.int .i64 0) rfl rfl (fun X hX => by simp [go_sem]) ?_
  simp only [List.getElem_toArray, List.getElem_cons_zero, Act.put, List.setIfInBounds_toArray, List.set_cons_zero, List.set_cons_succ]
  refine wpQ_f _ (.bool true) rfl rfl (fun X hX => by simp [go_sem]) ?_
  simp only [zp4, zp5, zp6, zp0, zp1, zp2, zp3]
  refine wpQ_f _ (.bool true) rfl rfl (fun X hX => by simp [go_sem]) ?_
  simp only [zp4, zp5, zp6, zp0, zp1, zp2, zp3]
  refine wpQ_f _ (.int .i64 0) rfl rfl (fun X hX => by simp [go_sem]) ?_
  simp only [zp4, zp5, zp6, zp0, zp1, zp2, zp3]
  refine wpQ_f _ (.bool true) rfl rfl (fun X hX => by simp [go_sem]) ?_
  simp only [zp4, zp5, zp6, zp0, zp1, zp2, zp3]
  refine wpQ_f _ (.bool true) rfl rfl (fun X hX => by simp [go_sem]) ?_
  simp only [zp4, zp5, zp6, zp0, zp1, zp2, zp3]
  refine wpQ_f _ (.bool true) rfl rfl (fun X hX => by simp [go_sem]) ?_
  simp only [zp4, zp5, zp6, zp0, zp1, zp2, zp3]
  refine wpQ_f _ (.int .i64 160) rfl rfl (fun X hX => by simp [go_sem]) ?_
  simp only [zp4, zp5, zp6, zp0, zp1, zp2, zp3]
  refine wpQ_f _ (.bool true) rfl rfl (fun X hX => by simp [go_sem]) ?_
  simp only [zp4, zp5, zp6, zp0, zp1, zp2, zp3]
  refine wpQ_f _ (.bool true) rfl rfl (fun X hX => by simp [go_sem]) ?_
  simp only [zp4, zp5, zp6, zp0, zp1, zp2, zp3]
  refine wpQ_f _ (.bool true) rfl rfl (fun X hX => by simp [go_sem]) ?_
  simp only [zp4, zp5, zp6, zp0, zp1, zp2, zp3]
  refine wpQ_f _ (.int .i64 0) rfl rfl (fun X hX => by simp [go_sem]) ?_
  simp only [zp4, zp5, zp6, zp0, zp1, zp2, zp3]
  refine wpQ_f _ (.bool true) rfl rfl (fun X hX => by simp [go_sem]) ?_
  simp only [zp4, zp5, zp6, zp0, zp1, zp2, zp3]
  refine wpQ_f _ (.bool true) rfl rfl (fun X hX => by simp [go_sem]) ?_
  simp only [zp4, zp5, zp6, zp0, zp1, zp2, zp3]
  refine wpQ_f _ (.bool true) rfl rfl (fun X hX => by simp [go_sem]) ?_
  simp only [zp4, zp5, zp6, zp0, zp1, zp2, zp3]
  refine wpQ_f _ (.int .i64 0) rfl rfl (fun X hX => by simp [go_sem]) ?_
  simp only [zp4, zp5, zp6, zp0, zp1, zp2, zp3]
  refine wpQ_f _ (.bool true) rfl rfl (fun X hX => by simp [go_sem]) ?_
  simp only [zp4, zp5, zp6, zp0, zp1, zp2, zp3]
  refine wpQ_f _ (.bool true) rfl rfl (fun X hX => by simp [go_sem]) ?_
  simp only [zp4, zp5, zp6, zp0, zp1, zp2, zp3]
  refine wpQ_f _ (.bool true) rfl rfl (fun X hX => by simp [go_sem]) ?_
  simp only [zp4, zp5, zp6, zp0, zp1, zp2, zp3]
  refine wpQ_f _ (.int .i64 0) rfl rfl (fun X hX => by simp [go_sem]) ?_
  simp only [zp4, zp5, zp6, zp0, zp1, zp2, zp3]
  refine wpQ_f _ (.bool true) rfl rfl (fun X hX => by simp [go_sem]) ?_
  simp only [zp4, zp5, zp6, zp0, zp1, zp2, zp3]
  refine wpQ_f _ (.bool true) rfl rfl (fun X hX => by simp [go_sem]) ?_
  simp only [zp4, zp5, zp6, zp0, zp1, zp2, zp3]
  refine wpQ_f _ (.bool true) rfl rfl (fun X hX => by simp [go_sem]) ?_
  simp only [zp4, zp5, zp6, zp0, zp1, zp2, zp3]
  refine wpQ_f _ (.int .i64 3) rfl rfl (fun X hX => by simp [go_sem]) ?_
  simp only [zp4, zp5, zp6, zp0, zp1, zp2, zp3]
  refine wpQ_f _ (.bool true) rfl rfl (fun X hX => by simp [go_sem]) ?_
  simp only [zp4, zp5, zp6, zp0, zp1, zp2, zp3]
  refine wpQ_f _ (.bool true) rfl rfl (fun X hX => by simp [go_sem]) ?_
  simp only [zp4, zp5, zp6, zp0, zp1, zp2, zp3]
  refine wpQ_f _ (.bool true) rfl rfl (fun X hX => by simp [go_sem]) ?_
  simp only [zp4, zp5, zp6, zp0, zp1, zp2, zp3]
  refine wpQ_f _ (v5) rfl rfl (fun X hX => by simp [go_sem]) ?_
  simp only [zp4, zp5, zp6, zp0, zp1, zp2, zp3]
  refine wpQ_f _ (.string (bS 512 (opF exD 5 (seF exD 5 exX)))) rfl rfl (fun X hX => by have cv := convS v5 512 (opF exD 5 (seF exD 5 exX)) X (B5.out.mv hX); simp [go_sem, cv]) ?_
  simp only [zp4, zp5, zp6, zp0, zp1, zp2, zp3]
  refine wpQ_m _ rfl rfl (fun X hX => ⟨.slice (some ⟨X.heap.size, 0, none⟩) 1 1, X.alloc (.cells #[.int .u8 120] 5), by simp [go_sem], ⟨X.heap.size, rfl, hX.2.2.2.1, (0, 0), heap_new _ _ _⟩, mv_ext ((Below.refl _ _).alloc (Nat.le_refl _) _)⟩) ?_
  rintro v29 ⟨_, -, g9, rfl, -⟩
  simp only [zp4, zp5, zp6, zp0, zp1, zp2, zp3]
  refine wpQ_to _ rfl rfl fun X hX => ?_
  obtain ⟨hX1, g', f3, hg', m, hm⟩ := hX
  injection f3 with f3
  injection f3 with f3
  injection f3 with f3
  subst f3
  obtain ⟨Y9, hcv, hmv⟩ := conv_mv (n := 1) hm hg'
  refine ⟨.slice (some ⟨g9, 0, none⟩) 1 1, Y9, by simp [go_sem, hcv], fun Z => MvT V.heap.size V Z ∧ mkX V.heap.size 29 999 #[] 29 (.slice (some ⟨g9, 0, none⟩) 1 1) Z, ⟨mv_trans hX1 hmv, mkX_cl _ _ _ _ (by decide) 29 _ _ _ ⟨g9, rfl, hg', m, hm⟩ hmv⟩, .inr (.inr ⟨fun Z hZ => hZ, hmv, fun A C hA k => ⟨mv_trans hA.1 k, mkX_cl _ _ _ _ (by decide) 29 _ _ _ hA.2 k⟩⟩), ?_⟩
  clear hcv hmv hm hX1
  simp only [zp4, zp5, zp6, zp0, zp1, zp2, zp3]
  refine wpQ_call _ rfl rfl (fun X hX => by simp [go_sem]) (fun X hX => (blk512_any (some ⟨g9, 0, none⟩) 1 1 exX X (by
    obtain ⟨hX1, g', f3, hg', m, hm⟩ := hX
    injection f3 with f3
    injection f3 with f3
    injection f3 with f3
    subst f3
    exact x_bv hm) (by decide)).mono ?_)
  rintro e3 X3 ⟨z3, rfl, hz3, hR3, hX3⟩
  rw [blk_x] at hR3
  refine ⟨_, rfl, fun Z => (MvT V.heap.size V Z ∧ mkX V.heap.size 29 999 #[] 29 (.slice (some ⟨g9, 0, none⟩) 1 1) Z) ∧ BV (.slice (some ⟨z3, 0, none⟩) 512 512) 512 exX Z, ⟨⟨mv_trans hX.1 (mv_ext hX3), mkX_cl _ _ _ _ (by decide) 29 _ _ _ hX.2 (mv_ext hX3)⟩, .inr ⟨⟨z3, 0, none⟩, 512, rfl, Nat.le_refl _, RowAt.lie hR3 512 (Nat.le_refl _)⟩⟩, .inr (.inr ⟨fun Z hZ => hZ.1, mv_ext hX3, fun A C hA k => ⟨⟨mv_trans hA.1.1 k, mkX_cl _ _ _ _ (by decide) 29 _ _ _ hA.1.2 k⟩, hA.2.mv k⟩⟩), ?_⟩
  clear hz3 hR3 hX3
  simp only [zp4, zp5, zp6, zp0, zp1, zp2, zp3]
  refine wpQ_g _ (.string (bS 512 exX)) rfl rfl (fun X hX => by have cv := convS (.slice (some ⟨z3, 0, none⟩) 512 512) 512 exX X hX.2; simp [go_sem, cv]) ?_
  simp only [zp4, zp5, zp6, zp0, zp1, zp2, zp3]
  refine wpQ_f _ (.bool true) rfl rfl (fun X hX => by simp [go_sem, bs_eq]) ?_
  simp only [zp4, zp5, zp6, zp0, zp1, zp2, zp3]
  refine wpQ_f _ (.bool true) rfl rfl (fun X hX => by simp [go_sem]) ?_
  simp only [zp4, zp5, zp6, zp0, zp1, zp2, zp3]
  refine wpQ_f _ (.bool true) rfl rfl (fun X hX => by simp [go_sem]) ?_
  simp only [zp4, zp5, zp6, zp0, zp1, zp2, zp3]
  refine wpQ_f _ (.pointer (some ⟨z8, 0, none⟩)) rfl rfl (fun X hX => by simp [go_sem]) ?_
  simp only [zp4, zp5, zp6, zp0, zp1, zp2, zp3]
  refine wpQ_f _ (.int .u64 (((4#64).toNat : Int))) rfl rfl (fun X hX => by have q : X.cell? ⟨z8, 0, none⟩ = some (.int .u64 ((4#64).toNat : Int)) := mv_cell hX _ _ (Z1.out.1 0 (by decide)); simp [go_sem, q]) ?_
  simp only [zp4, zp5, zp6, zp0, zp1, zp2, zp3]
  refine wpQ_f _ (.bool true) rfl rfl (fun X hX => by simp [go_sem]) ?_
  simp only [zp4, zp5, zp6, zp0, zp1, zp2, zp3]
  refine wpQ_f _ (.bool true) rfl rfl (fun X hX => by simp [go_sem]) ?_
  simp only [zp4, zp5, zp6, zp0, zp1, zp2, zp3]
  refine wpQ_f _ (.bool true) rfl rfl (fun X hX => by simp [go_sem]) ?_
  simp only [List.getElem_toArray, List.getElem_cons_zero, List.getElem_cons_succ, Act.put, List.setIfInBounds_toArray, List.set_cons_zero]
  refine wpQ_nil fun Y hY => ?_
  have hE := hideit (Ext.trans hEV.out (mv_back (Ext.refl V) (Nat.le_refl _) hY.1.1))
  clear hY
  go_wp2
  go_ret
  exact ⟨rfl, hE.out⟩
end Go.Proofs.YtgjabfjkokpkiaaDoor
namespace Go.Proofs.YtgjabfjkokpkiaaDoor
open Go.RowKit Go.BigFrame
set_option linter.unusedVariables false
set_option maxRecDepth 20000
theorem neq23 (f g : Nat → BitVec 8) (r : Bool) (hr : r = true ↔ ∀ j, j < 64 → f j = g j) (w : World) : (binOp .neq 23 (.agg (row 64 (yv f)).toArray) (.agg (row 64 (yv g)).toArray)).run Tryd.prog w = .ok (.bool (!r)) w := by
  have e := equalIn_row (P := Tryd.prog) 9998 23 5 64 .u8 Tryd.underlying23 Tryd.underlying5 Tryd.sizeOf5 (fun j => ((f j).toNat : Int)) (fun j => ((g j).toNat : Int)) w
  have e2 : ((List.range 64).all fun j => ((f j).toNat : Int) == ((g j).toNat : Int)) = r := by rw [Bool.eq_iff_iff, hr, all_iff, decide_eq_true_iff]
  rw [e2] at e
  rw [run_neq_struct]
  show ((Op.equalIn (9998 + 2) 23 (.agg (row 64 fun j => .int .u8 ((f j).toNat : Int)).toArray) (.agg (row 64 fun j => .int .u8 ((g j).toNat : Int)).toArray)).run Tryd.prog w).andThen _ = _
  rw [e]
  rfl
theorem eqG23 : Tryd.prog.eqGuardType Tryd.prog.depth 23 = false := by kernel_rfl
theorem tgE_ok {l : Nat} {n : Int} (h : tgE l n = 0) : l = 512 ∧ 0 ≤ n := by
  unfold tgE at h
  by_cases h1 : n < 0
  · rw [if_pos h1] at h; cases h
  · rw [if_neg h1] at h
    by_cases h2 : l = 512
    · exact ⟨h2, by omega⟩
    · rw [if_neg h2] at h; cases h
end Go.Proofs.YtgjabfjkokpkiaaDoor
