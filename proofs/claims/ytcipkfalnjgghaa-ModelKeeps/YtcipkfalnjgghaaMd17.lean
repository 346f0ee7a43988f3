/-
  What must come of every program.
-/
import Derived.Test.YtcipkfalnjgghaaMd16
namespace Go.Proofs.Ytcipkfalnjgghaa
open Go.RowKit Go.BigFrame Go.Maps
set_option linter.unusedVariables false
theorem RowAt.bv {z n : Nat} {f : Nat → BitVec 8} {w : World} (h : RowAt z n (yv f) w) : BV (.slice (some ⟨z, 0, none⟩) n n) n f w := .inr ⟨_, n, rfl, Nat.le_refl _, fun j hj => by rw [addr0]; exact h.1 j hj, h.2.2⟩
theorem RowAt.ext {z n : Nat} {g : Nat → Value} {w X : World} (h : RowAt z n g w) (k : Ext w X) : RowAt z n g X := h.carry k
theorem rd_ok {s : MSt} {n : Int} {B : Nat} {vo : Option Addr} {vl vk : Nat} {c : Int} {W : World} (h : RdP s n B (.slice vo vl vk) c W) (hn : 0 ≤ n ∧ n < s.h.se) : ∃ z, vo = some ⟨z, 0, none⟩ ∧ vl = 512 ∧ vk = 512 ∧ c = 0 ∧ RowAt z 512 (yv (rdF s n)) W := by
  rcases h with ⟨_, h, _⟩ | ⟨rfl, _, z, h1, _, h2⟩
  · exact absurd hn h
  · injection h1 with h1 h3 h4
    exact ⟨z, h1, h3, h4, rfl, h2⟩
theorem xconvB {P : Program} {o : Oper} {a : Act} {w w' : World} {v v' : Value} (x : Operand) (ho : o.op = .convert 22 22 x) (hx : a.eval x = v) (hr : (convert 22 22 v).run P w = .ok v' w') : (execOp a.eval o).run P w = .ok (.value v') w' := by
  generalize a.eval = ρ at hx ⊢
  simp [execOp, ho, hx, hr, Result.andThen]
theorem xconvS {o : Oper} {a : Act} {w : World} (x : Operand) (v : Value) (l : Nat) (f : Nat → BitVec 8) (K : ByteArray) (ho : o.op = .convert 22 9 x) (hx : a.eval x = v) (h : BV v l f w) (hK : K = bstr l fun j => ((f j).toNat : Int)) : (execOp a.eval o).run Try.prog w = .ok (.value (.string K)) w := by
  have q := convV v l f w h
  rw [← hK] at q
  generalize a.eval = ρ at hx ⊢
  simp [execOp, ho, hx, q, Result.andThen]
def RowAt1 (g : Nat) (v : Value) (w : World) : Prop := w.cell? ⟨g, 0, none⟩ = some v ∧ g < w.heap.size
theorem RowAt1.ext {g : Nat} {v : Value} {w X : World} (h : RowAt1 g v w) (k : Ext w X) : RowAt1 g v X := ⟨(Below.cell k (p := ⟨g, 0, none⟩) h.2).trans h.1, Nat.lt_of_lt_of_le h.2 (Below.size k)⟩
theorem xloadC {P : Program} {o : Oper} {a : Act} {w : World} (t : TypeId) (x : Operand) (ho : o.op = .load t x) (ad : Addr) (b : Int) (hx : a.eval x = .pointer (some ad)) (h : w.cell? ad = some (.int .i64 b)) (hg : ∀ w, (isAgg t).run P w = .ok false w) : (execOp a.eval o).run P w = .ok (.value (.int .i64 b)) w := by
  generalize a.eval = ρ at hx ⊢
  unfold execOp
  simp [ho, hx, Instr.loadAt, Instr.sureAddr, loadVar, hg, h, go_sem]
set_option maxRecDepth 20000 in
set_option maxHeartbeats 4000000 in
theorem lives_any (w : World) : Calls Try.prog 8 #[] w fun e w' => e = .returned (.bool true) ∧ Ext w w' := by
  obtain ⟨KS, hKS⟩ : ∃ K, K = bstr 512 fun j => ((blkF 1 xF j).toNat : Int) := ⟨_, rfl⟩
  have hE := hideit (Ext.refl w)
  go_enter Try.func8, Try.ntmps8
  go_upto_region 1 with (fail)
  refine wp_region_lit ?_
  refine wpList_call rfl (by simp [go_sem]) ((head9 w).mono ?_)
  rintro e y1 ⟨rfl, hX2⟩
  refine ⟨_, rfl, ?_⟩
  simp only [Act.put, List.setIfInBounds_toArray, List.set_cons_zero, List.set_cons_succ]
  replace hE := hideit (Ext.trans hE.out (hX2))

  clear hX2
  refine wpList_to rfl (.slice (some ⟨y1.heap.size, 0, none⟩) 3 3) (y1.alloc (.cells #[.int .u8 111, .int .u8 110, .int .u8 101] 5)) (by simp [go_sem]) ?_
  simp only [Act.put, List.setIfInBounds_toArray, List.set_cons_zero, List.set_cons_succ]
  obtain ⟨x3, hr, hB, hX⟩ := constB y1 #[.int .u8 111, .int .u8 110, .int .u8 101] 3 (oneF) (fun j hj => by rcases (by omega : j = 0 ∨ j = 1 ∨ j = 2) with rfl | rfl | rfl <;> rfl)
  refine wpList_to rfl (.slice (some ⟨y1.heap.size, 0, none⟩) 3 3) x3 (by simp [go_sem, hr]) ?_
  simp only [Act.put, List.setIfInBounds_toArray, List.set_cons_zero, List.set_cons_succ]
  obtain ⟨a1, ea1⟩ : ∃ a : Addr, a = ⟨y1.heap.size, 0, none⟩ := ⟨_, rfl⟩
  rw [← ea1] at hB ⊢
  clear ea1 hr
  have hb1 := hideit hB
  clear hB
  replace hE := hideit (Ext.trans hE.out (hX))
  clear hX
  have hs1 := hideit (Below.size hE.out)
  refine wpList_call rfl (by simp [go_sem]) ((new_ok h9 (some a1) 3 3 x3 oneF hb1.out okH9 (by decide)).mono ?_)
  rintro e y9 ⟨F, p, M, rfl, hM, hF, hX9⟩
  refine ⟨_, rfl, ?_⟩
  simp only [Act.put, List.setIfInBounds_toArray, List.set_cons_zero, List.set_cons_succ]
  replace hb1 := hideit (hb1.out.ext hX9)
  replace hE := hideit (Ext.trans hE.out (hX9))
  replace hM := hideit hM
  replace hF : Hid (∀ i, F i → w.heap.size ≤ i) := fun i hi => Nat.le_trans hs1.out (hF i hi)
  clear hX9 hs1
  refine xm [some (.tuple #[.pointer (some ⟨p, 0, none⟩), .int .i64 0]), some (.pointer (some ⟨p, 0, none⟩)), some (.int .i64 0), some (.pointer (some ⟨p, 0, none⟩)), some (.int .i64 0)] (by kernel_rfl) (by simp [xr, go_sem]) ?_
  simp only [xw, p0, p1, p2, p3]
  go_upto_region 2 with (fail)
  refine wp_region_lit ?_
  refine xm [some (.int .i64 0), some (.bool false), some (.bool false), some (.pointer (some ⟨p, 0, none⟩)), some (.bool false), some (.bool false)] (by kernel_rfl) (by simp [xr, go_sem]) ?_
  simp only [xw, p0, p1, p2, p3]
  go_upto_region 4 with (fail)
  refine wp_region_lit ?_
  refine xm [some (.pointer (some ⟨p, 0, none⟩))] (by kernel_rfl) (by simp [xr, go_sem]) ?_
  simp only [xw, p0, p1, p2, p3]
  refine wpList_call rfl (by simp [go_sem]) ((read_shut l0 hM.out rfl 3).mono ?_)
  rintro e y4 ⟨rfl, hX5⟩
  refine ⟨_, rfl, ?_⟩
  simp only [Act.put, List.setIfInBounds_toArray, List.set_cons_zero, List.set_cons_succ]
  replace hM := hideit (hM.out.ext hX5)
  replace hE := hideit (Ext.trans hE.out (hX5))

  clear hX5
  refine xm [some (.tuple #[.slice none 0 0, .int .i64 6]), some (.slice none 0 0), some (.int .i64 6), some (.slice none 0 0), some (.int .i64 6)] (by kernel_rfl) (by simp [xr, go_sem]) ?_
  simp only [xw, p0, p1, p2, p3]
  go_upto_region 5 with (fail)
  refine wp_region_lit ?_
  refine xm [some (.pointer (some ⟨p, 0, none⟩))] (by kernel_rfl) (by simp [xr, go_sem]) ?_
  simp only [xw, p0, p1, p2, p3]
  refine wpList_to rfl (.slice (some ⟨y4.heap.size, 0, none⟩) 3 3) (y4.alloc (.cells #[.int .u8 116, .int .u8 119, .int .u8 111] 5)) (by simp [go_sem]) ?_
  simp only [Act.put, List.setIfInBounds_toArray, List.set_cons_zero, List.set_cons_succ]
  obtain ⟨x6, hr, hB, hX⟩ := constB y4 #[.int .u8 116, .int .u8 119, .int .u8 111] 3 (twoF) (fun j hj => by rcases (by omega : j = 0 ∨ j = 1 ∨ j = 2) with rfl | rfl | rfl <;> rfl)
  refine wpList_to rfl (.slice (some ⟨y4.heap.size, 0, none⟩) 3 3) x6 (by simp [go_sem, hr]) ?_
  simp only [Act.put, List.setIfInBounds_toArray, List.set_cons_zero, List.set_cons_succ]
  obtain ⟨a2, ea2⟩ : ∃ a : Addr, a = ⟨y4.heap.size, 0, none⟩ := ⟨_, rfl⟩
  rw [← ea2] at hB ⊢
  clear ea2 hr
  have hb2 := hideit hB
  clear hB
  replace hM := hideit (hM.out.ext hX)
  replace hE := hideit (Ext.trans hE.out (hX))
  clear hX
  refine wpList_call rfl (by simp [go_sem]) ((open_any l0 hM.out (some a2) 3 3 twoF hb2.out).mono ?_)
  rintro e y5 ⟨c, s9, rfl, hop, hM9, hK9⟩
  refine ⟨_, rfl, ?_⟩
  simp only [Act.put, List.setIfInBounds_toArray, List.set_cons_zero, List.set_cons_succ]
  obtain ⟨rfl, rfl⟩ := op_two hop
  replace hM := hideit hM9
  replace hE := hideit (Ext.keeps hE.out hK9 hF.out)
  clear hM9 hK9 hop
  refine xm [some (.int .i64 200)] (by kernel_rfl) (by simp [xr, go_sem]) ?_
  simp only [xw, p0, p1, p2, p3]
  go_upto_region 6 with (fail)
  refine wp_region_lit ?_
  refine xm [some (.pointer (some ⟨p, 0, none⟩))] (by kernel_rfl) (by simp [xr, go_sem]) ?_
  simp only [xw, p0, p1, p2, p3]
  refine wpList_to rfl (.slice (some ⟨y5.heap.size, 0, none⟩) 3 3) (y5.alloc (.cells #[.int .u8 111, .int .u8 110, .int .u8 101] 5)) (by simp [go_sem]) ?_
  simp only [Act.put, List.setIfInBounds_toArray, List.set_cons_zero, List.set_cons_succ]
  obtain ⟨x7, hr, hB, hX⟩ := constB y5 #[.int .u8 111, .int .u8 110, .int .u8 101] 3 (oneF) (fun j hj => by rcases (by omega : j = 0 ∨ j = 1 ∨ j = 2) with rfl | rfl | rfl <;> rfl)
  refine wpList_to rfl (.slice (some ⟨y5.heap.size, 0, none⟩) 3 3) x7 (by simp [go_sem, hr]) ?_
  simp only [Act.put, List.setIfInBounds_toArray, List.set_cons_zero, List.set_cons_succ]
  obtain ⟨a3, ea3⟩ : ∃ a : Addr, a = ⟨y5.heap.size, 0, none⟩ := ⟨_, rfl⟩
  rw [← ea3] at hB ⊢
  clear ea3 hr
  have hb3 := hideit hB
  clear hB
  replace hM := hideit (hM.out.ext hX)
  replace hE := hideit (Ext.trans hE.out (hX))
  clear hX
  refine wpList_call rfl (by simp [go_sem]) ((open_any l0 hM.out (some a3) 3 3 oneF hb3.out).mono ?_)
  rintro e y6 ⟨c, s9, rfl, hop, hM9, hK9⟩
  refine ⟨_, rfl, ?_⟩
  simp only [Act.put, List.setIfInBounds_toArray, List.set_cons_zero, List.set_cons_succ]
  obtain ⟨rfl, rfl⟩ := op_one hop
  replace hM := hideit hM9
  replace hE := hideit (Ext.keeps hE.out hK9 hF.out)
  clear hM9 hK9 hop
  refine xm [some (.int .i64 0)] (by kernel_rfl) (by simp [xr, go_sem]) ?_
  simp only [xw, p0, p1, p2, p3]
  go_upto_region 7 with (fail)
  refine wp_region_lit ?_
  refine xm [some (.pointer (some ⟨p, 0, none⟩))] (by kernel_rfl) (by simp [xr, go_sem]) ?_
  simp only [xw, p0, p1, p2, p3]
  refine wpList_to rfl (.slice (some ⟨y6.heap.size, 0, none⟩) 1 1) (y6.alloc (.cells #[.int .u8 120] 5)) (by simp [go_sem]) ?_
  simp only [Act.put, List.setIfInBounds_toArray, List.set_cons_zero, List.set_cons_succ]
  obtain ⟨x8, hr, hB, hX⟩ := constB y6 #[.int .u8 120] 1 (xF) (fun j hj => by rcases (by omega : j = 0) with rfl <;> rfl)
  refine wpList_to rfl (.slice (some ⟨y6.heap.size, 0, none⟩) 1 1) x8 (by simp [go_sem, hr]) ?_
  simp only [Act.put, List.setIfInBounds_toArray, List.set_cons_zero, List.set_cons_succ]
  obtain ⟨a4, ea4⟩ : ∃ a : Addr, a = ⟨y6.heap.size, 0, none⟩ := ⟨_, rfl⟩
  rw [← ea4] at hB ⊢
  clear ea4 hr
  have hb4 := hideit hB
  clear hB
  replace hM := hideit (hM.out.ext hX)
  replace hE := hideit (Ext.trans hE.out (hX))
  clear hX
  refine wpList_call rfl (by simp [go_sem]) ((block_any (some a4) 1 1 xF x8 hb4.out (by decide)).mono ?_)
  rintro e zby ⟨zb, rfl, _, hzb, hX7⟩
  refine ⟨_, rfl, ?_⟩
  simp only [Act.put, List.setIfInBounds_toArray, List.set_cons_zero, List.set_cons_succ]
  replace hM := hideit (hM.out.ext hX7)
  replace hb4 := hideit (hb4.out.ext hX7)
  replace hE := hideit (Ext.trans hE.out (hX7))
  replace hzb := hideit hzb
  clear hX7
  refine wpList_call rfl (by simp [go_sem]) ((write_open h9 (fun _ => none) (fun x => if x = 0 then some (3, oneF) else none) 1 rt0 ((0 : Nat) : Int) hM.out 3 (some ⟨zb, 0, none⟩) 512 512 (blkF 1 xF) hzb.out.bv (WalkArith.wf_i64 (by decide)) (by decide) 0 l2 ⟨rfl, rfl⟩).mono ?_)
  rintro e y7 ⟨rfl, hM9, hK9⟩
  refine ⟨_, rfl, ?_⟩
  simp only [Act.put, List.setIfInBounds_toArray, List.set_cons_zero, List.set_cons_succ]
  replace hM := hideit hM9
  replace hE := hideit (Ext.keeps hE.out hK9 hF.out)
  clear hM9 hK9 hzb hb4
  refine xm [some (.int .i64 0)] (by kernel_rfl) (by simp [xr, go_sem]) ?_
  simp only [xw, p0, p1, p2, p3]
  go_upto_region 8 with (fail)
  refine wp_region_lit ?_
  refine xm [some (.pointer (some ⟨p, 0, none⟩))] (by kernel_rfl) (by simp [xr, go_sem]) ?_
  simp only [xw, p0, p1, p2, p3]
  refine wpList_call rfl (by simp [go_sem]) ((read_open l2 hM.out rfl 3 (WalkArith.wf_i64 (by decide))).mono ?_)
  rintro e y8 ⟨vo, vl, vk, c, rfl, hP, hX8⟩
  refine ⟨_, rfl, ?_⟩
  simp only [Act.put, List.setIfInBounds_toArray, List.set_cons_zero, List.set_cons_succ]
  replace hM := hideit (hM.out.ext hX8)
  replace hE := hideit (Ext.trans hE.out (hX8))
  obtain ⟨z, rfl, rfl, rfl, rfl, hz⟩ := rd_ok hP ⟨by decide, by decide⟩
  replace hz : Hid (RowAt z 512 (yv (blkF 1 xF)) y8) := hz
  clear hP hX8
  refine xm [some (.tuple #[.slice (some ⟨z, 0, none⟩) 512 512, .int .i64 0]), some (.slice (some ⟨z, 0, none⟩) 512 512), some (.int .i64 0), some (.slice (some ⟨z, 0, none⟩) 512 512), some (.int .i64 0)] (by kernel_rfl) (by simp [xr, go_sem]) ?_
  simp only [xw, p0, p1, p2, p3]
  go_upto_region 9 with (fail)
  refine wp_region_lit ?_
  refine xm [some (.pointer (some ⟨p, 0, none⟩))] (by kernel_rfl) (by simp [xr, go_sem]) ?_
  simp only [xw, p0, p1, p2, p3]
  refine wpList_call rfl (by simp [go_sem]) ((written_any l2 hM.out).mono ?_)
  rintro e yw ⟨v9, rfl, hO9, hX9⟩
  refine ⟨_, rfl, ?_⟩
  simp only [Act.put, List.setIfInBounds_toArray, List.set_cons_zero, List.set_cons_succ]
  replace hM := hideit (hM.out.ext hX9)
  replace hz := hideit (hz.out.ext hX9)
  replace hE := hideit (Ext.trans hE.out (hX9))
  rw [l2_list] at hO9
  obtain ⟨g, gc, rfl, _, hgc, _, hg⟩ := hO9.lies (by decide)
  replace hg : Hid (yw.cell? ⟨g, 0, none⟩ = some (.int .i64 3) ∧ g < yw.heap.size) := ⟨hg.1 0 (by decide), hg.2.2⟩
  clear hO9 hX9 hgc
  refine xm [some (.slice (some ⟨g, 0, none⟩) 1 gc)] (by kernel_rfl) (by simp [xr, go_sem]) ?_
  simp only [xw, p0, p1, p2, p3]
  have hgl : Hid (RowAt1 g (.int .i64 3) yw) := hg.out
  clear hg
  go_upto_region 10 with (fail)
  replace hM := hideit (hM.out.ext (Ext.draw (Ext.refl yw)))
  replace hz := hideit (hz.out.ext (Ext.draw (Ext.refl yw)))
  replace hgl := hideit (hgl.out.ext (Ext.draw (Ext.refl yw)))
  replace hE := hideit (Ext.draw hE.out)
  refine wp_region_ladz (fun X => Ext yw.drew X) [] [(false, 0), (false, 1), (false, 2), (false, 3), (false, 4), (false, 5), (false, 6), (false, 7), (false, 8), (false, 9), (false, 10), (false, 11), (false, 12), (false, 13), (false, 14), (false, 15), (false, 16), (false, 17), (false, 18), (false, 19), (false, 20), (true, 21), (true, 22), (true, 23), (false, 24), (false, 25), (false, 26), (false, 27), (false, 28), (false, 29), (false, 30), (false, 31), (false, 32), (false, 33), (false, 34), (false, 35), (false, 36), (false, 37), (false, 38)] (by kernel_rfl) (by kernel_rfl) (by decide +kernel) (by decide +kernel) (by decide +kernel) (by decide +kernel) (Ext.refl _) ?_
  refine wpZ_f _ (.int .i64 6) rfl rfl (fun X _ => by simp [go_sem]) ?_
  simp only [List.getElem_toArray, List.getElem_cons_zero, Act.put, List.setIfInBounds_toArray, List.set_cons_zero, List.set_cons_succ]
  refine wpZ_f _ (.bool true) rfl rfl (fun X _ => by simp [go_sem]) ?_
  simp only [List.getElem_toArray, List.getElem_cons_zero, List.getElem_cons_succ, Act.put, List.setIfInBounds_toArray, List.set_cons_zero, List.set_cons_succ]
  refine wpZ_f _ (.bool true) rfl rfl (fun X _ => by simp [go_sem]) ?_
  simp only [List.getElem_toArray, List.getElem_cons_zero, List.getElem_cons_succ, Act.put, List.setIfInBounds_toArray, List.set_cons_zero, List.set_cons_succ]
  refine wpZ_f _ (.int .i64 200) rfl rfl (fun X _ => by simp [go_sem]) ?_
  simp only [List.getElem_toArray, List.getElem_cons_zero, List.getElem_cons_succ, Act.put, List.setIfInBounds_toArray, List.set_cons_zero, List.set_cons_succ]
  refine wpZ_f _ (.bool true) rfl rfl (fun X _ => by simp [go_sem]) ?_
  simp only [List.getElem_toArray, List.getElem_cons_zero, List.getElem_cons_succ, Act.put, List.setIfInBounds_toArray, List.set_cons_zero, List.set_cons_succ]
  refine wpZ_f _ (.bool true) rfl rfl (fun X _ => by simp [go_sem]) ?_
  simp only [List.getElem_toArray, List.getElem_cons_zero, List.getElem_cons_succ, Act.put, List.setIfInBounds_toArray, List.set_cons_zero, List.set_cons_succ]
  refine wpZ_f _ (.bool true) rfl rfl (fun X _ => by simp [go_sem]) ?_
  simp only [List.getElem_toArray, List.getElem_cons_zero, List.getElem_cons_succ, Act.put, List.setIfInBounds_toArray, List.set_cons_zero, List.set_cons_succ]
  refine wpZ_f _ (.int .i64 0) rfl rfl (fun X _ => by simp [go_sem]) ?_
  simp only [List.getElem_toArray, List.getElem_cons_zero, List.getElem_cons_succ, Act.put, List.setIfInBounds_toArray, List.set_cons_zero, List.set_cons_succ]
  refine wpZ_f _ (.bool true) rfl rfl (fun X _ => by simp [go_sem]) ?_
  simp only [List.getElem_toArray, List.getElem_cons_zero, List.getElem_cons_succ, Act.put, List.setIfInBounds_toArray, List.set_cons_zero, List.set_cons_succ]
  refine wpZ_f _ (.bool true) rfl rfl (fun X _ => by simp [go_sem]) ?_
  simp only [List.getElem_toArray, List.getElem_cons_zero, List.getElem_cons_succ, Act.put, List.setIfInBounds_toArray, List.set_cons_zero, List.set_cons_succ]
  refine wpZ_f _ (.bool true) rfl rfl (fun X _ => by simp [go_sem]) ?_
  simp only [List.getElem_toArray, List.getElem_cons_zero, List.getElem_cons_succ, Act.put, List.setIfInBounds_toArray, List.set_cons_zero, List.set_cons_succ]
  refine wpZ_f _ (.int .i64 0) rfl rfl (fun X _ => by simp [go_sem]) ?_
  simp only [List.getElem_toArray, List.getElem_cons_zero, List.getElem_cons_succ, Act.put, List.setIfInBounds_toArray, List.set_cons_zero, List.set_cons_succ]
  refine wpZ_f _ (.bool true) rfl rfl (fun X _ => by simp [go_sem]) ?_
  simp only [List.getElem_toArray, List.getElem_cons_zero, List.getElem_cons_succ, Act.put, List.setIfInBounds_toArray, List.set_cons_zero, List.set_cons_succ]
  refine wpZ_f _ (.bool true) rfl rfl (fun X _ => by simp [go_sem]) ?_
  simp only [List.getElem_toArray, List.getElem_cons_zero, List.getElem_cons_succ, Act.put, List.setIfInBounds_toArray, List.set_cons_zero, List.set_cons_succ]
  refine wpZ_f _ (.bool true) rfl rfl (fun X _ => by simp [go_sem]) ?_
  simp only [List.getElem_toArray, List.getElem_cons_zero, List.getElem_cons_succ, Act.put, List.setIfInBounds_toArray, List.set_cons_zero, List.set_cons_succ]
  refine wpZ_f _ (.int .i64 0) rfl rfl (fun X _ => by simp [go_sem]) ?_
  simp only [List.getElem_toArray, List.getElem_cons_zero, List.getElem_cons_succ, Act.put, List.setIfInBounds_toArray, List.set_cons_zero, List.set_cons_succ]
  refine wpZ_f _ (.bool true) rfl rfl (fun X _ => by simp [go_sem]) ?_
  simp only [List.getElem_toArray, List.getElem_cons_zero, List.getElem_cons_succ, Act.put, List.setIfInBounds_toArray, List.set_cons_zero, List.set_cons_succ]
  refine wpZ_f _ (.bool true) rfl rfl (fun X _ => by simp [go_sem]) ?_
  simp only [List.getElem_toArray, List.getElem_cons_zero, List.getElem_cons_succ, Act.put, List.setIfInBounds_toArray, List.set_cons_zero, List.set_cons_succ]
  refine wpZ_f _ (.bool true) rfl rfl (fun X _ => by simp [go_sem]) ?_
  simp only [List.getElem_toArray, List.getElem_cons_zero, List.getElem_cons_succ, Act.put, List.setIfInBounds_toArray, List.set_cons_zero, List.set_cons_succ]
  refine wpZ_f _ (.slice (some ⟨z, 0, none⟩) 512 512) rfl rfl (fun X _ => by simp [go_sem]) ?_
  simp only [List.getElem_toArray, List.getElem_cons_zero, List.getElem_cons_succ, Act.put, List.setIfInBounds_toArray, List.set_cons_zero, List.set_cons_succ]
  refine wpZ_f _ (.string KS) rfl rfl (fun X hX => xconvS (.tmp 68) _ 512 (blkF 1 xF) KS rfl rfl (hz.out.ext hX).bv hKS) ?_
  simp only [List.getElem_toArray, List.getElem_cons_zero, List.getElem_cons_succ, Act.put, List.setIfInBounds_toArray, List.set_cons_zero, List.set_cons_succ]
  refine wpZ_to _ (.slice (some ⟨yw.drew.heap.size, 0, none⟩) 1 1) (yw.drew.alloc (.cells #[.int .u8 120] 5)) rfl rfl (by simp [go_sem]) (fun X => Ext yw.drew X) (.inr fun X hX => hX) ((Below.refl _ _).alloc (Nat.le_refl _) _) ?_
  simp only [List.getElem_toArray, List.getElem_cons_zero, List.getElem_cons_succ, Act.put, List.setIfInBounds_toArray, List.set_cons_zero, List.set_cons_succ]
  obtain ⟨x9, hr, hB, hX⟩ := constB yw.drew #[.int .u8 120] 1 (xF) (fun j hj => by rcases (by omega : j = 0) with rfl <;> rfl)
  refine wpZ_to _ (.slice (some ⟨yw.drew.heap.size, 0, none⟩) 1 1) x9 rfl rfl (xconvB (.tmp 70) rfl rfl hr) (fun X => Ext x9 X) (.inr fun X hX9 => Ext.trans hX hX9) (Ext.refl _) ?_
  simp only [List.getElem_toArray, List.getElem_cons_zero, List.getElem_cons_succ, Act.put, List.setIfInBounds_toArray, List.set_cons_zero, List.set_cons_succ]
  obtain ⟨a5, ea5⟩ : ∃ a : Addr, a = ⟨yw.drew.heap.size, 0, none⟩ := ⟨_, rfl⟩
  rw [← ea5] at hB ⊢
  clear ea5 hr
  have hb5 := hideit hB
  clear hB
  replace hM := hideit (hM.out.ext hX)
  replace hz := hideit (hz.out.ext hX)
  replace hgl := hideit (hgl.out.ext hX)
  replace hE := hideit (Ext.trans hE.out (hX))
  clear hX
  refine wpZ_call _ rfl rfl (by simp [go_sem]) ((block_any (some a5) 1 1 xF x9 hb5.out (by decide)).mono ?_)
  rintro e zcy ⟨zc, rfl, _, hzc, hX7⟩
  refine ⟨_, rfl, fun X => Ext zcy X, .inr (fun X hX => Ext.trans hX7 hX), Ext.refl _, ?_⟩
  simp only [List.getElem_toArray, List.getElem_cons_zero, List.getElem_cons_succ, Act.put, List.setIfInBounds_toArray, List.set_cons_zero, List.set_cons_succ]
  replace hM := hideit (hM.out.ext hX7)
  replace hz := hideit (hz.out.ext hX7)
  replace hgl := hideit (hgl.out.ext hX7)
  replace hb5 := hideit (hb5.out.ext hX7)
  replace hE := hideit (Ext.trans hE.out (hX7))
  replace hzc := hideit hzc
  clear hX7
  refine wpZ_f _ (.string KS) rfl rfl (fun X hX => xconvS (.tmp 72) _ 512 (blkF 1 xF) KS rfl rfl (hzc.out.ext hX).bv hKS) ?_
  simp only [List.getElem_toArray, List.getElem_cons_zero, List.getElem_cons_succ, Act.put, List.setIfInBounds_toArray, List.set_cons_zero, List.set_cons_succ]
  refine wpZ_f _ (.bool true) rfl rfl (fun X _ => by simp [go_sem]) ?_
  simp only [List.getElem_toArray, List.getElem_cons_zero, List.getElem_cons_succ, Act.put, List.setIfInBounds_toArray, List.set_cons_zero, List.set_cons_succ]
  refine wpZ_f _ (.bool true) rfl rfl (fun X _ => by simp [go_sem]) ?_
  simp only [List.getElem_toArray, List.getElem_cons_zero, List.getElem_cons_succ, Act.put, List.setIfInBounds_toArray, List.set_cons_zero, List.set_cons_succ]
  refine wpZ_f _ (.bool true) rfl rfl (fun X _ => by simp [go_sem]) ?_
  simp only [List.getElem_toArray, List.getElem_cons_zero, List.getElem_cons_succ, Act.put, List.setIfInBounds_toArray, List.set_cons_zero, List.set_cons_succ]
  refine wpZ_f _ (.slice (some ⟨g, 0, none⟩) 1 gc) rfl rfl (fun X _ => by simp [go_sem]) ?_
  simp only [List.getElem_toArray, List.getElem_cons_zero, List.getElem_cons_succ, Act.put, List.setIfInBounds_toArray, List.set_cons_zero, List.set_cons_succ]
  refine wpZ_f _ (.int .i64 1) rfl rfl (fun X _ => by simp [go_sem]) ?_
  simp only [List.getElem_toArray, List.getElem_cons_zero, List.getElem_cons_succ, Act.put, List.setIfInBounds_toArray, List.set_cons_zero, List.set_cons_succ]
  refine wpZ_f _ (.bool true) rfl rfl (fun X _ => by simp [go_sem]) ?_
  simp only [List.getElem_toArray, List.getElem_cons_zero, List.getElem_cons_succ, Act.put, List.setIfInBounds_toArray, List.set_cons_zero, List.set_cons_succ]
  refine wpZ_f _ (.bool true) rfl rfl (fun X _ => by simp [go_sem]) ?_
  simp only [List.getElem_toArray, List.getElem_cons_zero, List.getElem_cons_succ, Act.put, List.setIfInBounds_toArray, List.set_cons_zero, List.set_cons_succ]
  refine wpZ_f _ (.bool true) rfl rfl (fun X _ => by simp [go_sem]) ?_
  simp only [List.getElem_toArray, List.getElem_cons_zero, List.getElem_cons_succ, Act.put, List.setIfInBounds_toArray, List.set_cons_zero, List.set_cons_succ]
  refine wpZ_f _ (.slice (some ⟨g, 0, none⟩) 1 gc) rfl rfl (fun X _ => by simp [go_sem]) ?_
  simp only [List.getElem_toArray, List.getElem_cons_zero, List.getElem_cons_succ, Act.put, List.setIfInBounds_toArray, List.set_cons_zero, List.set_cons_succ]
  refine wpZ_f _ (.pointer (some ⟨g, 0, none⟩)) rfl rfl (fun X _ => by simp [go_sem, addr0]) ?_
  simp only [List.getElem_toArray, List.getElem_cons_zero, List.getElem_cons_succ, Act.put, List.setIfInBounds_toArray, List.set_cons_zero, List.set_cons_succ]
  refine wpZ_f _ (.int .i64 3) rfl rfl (fun X hX => xloadC 3 (.tmp 83) rfl ⟨g, 0, none⟩ 3 rfl ((hgl.out.ext hX).1) Try.isAgg3) ?_
  simp only [List.getElem_toArray, List.getElem_cons_zero, List.getElem_cons_succ, Act.put, List.setIfInBounds_toArray, List.set_cons_zero, List.set_cons_succ]
  refine wpZ_f _ (.bool true) rfl rfl (fun X _ => by simp [go_sem]) ?_
  simp only [List.getElem_toArray, List.getElem_cons_zero, List.getElem_cons_succ, Act.put, List.setIfInBounds_toArray, List.set_cons_zero, List.set_cons_succ]
  refine wpZ_f _ (.bool true) rfl rfl (fun X _ => by simp [go_sem]) ?_
  simp only [List.getElem_toArray, List.getElem_cons_zero, List.getElem_cons_succ, Act.put, List.setIfInBounds_toArray, List.set_cons_zero, List.set_cons_succ]
  refine wpZ_f _ (.bool true) rfl rfl (fun X _ => by simp [go_sem]) ?_
  simp only [List.getElem_toArray, List.getElem_cons_zero, List.getElem_cons_succ, Act.put, List.setIfInBounds_toArray, List.set_cons_zero]
  refine wpZ_nil ?_
  go_wp2
  go_ret
  exact ⟨rfl, hE.out⟩
end Go.Proofs.Ytcipkfalnjgghaa
