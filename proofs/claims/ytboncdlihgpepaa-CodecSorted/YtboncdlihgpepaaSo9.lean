/-
  The document's Sorted: Set.
-/
import Derived.Test.YtboncdlihgpepaaSo8
import Derived.Test.YtboncdlihgpepaaLadM
import Derived.ArgAppend
namespace Go.Proofs.Ytboncdlihgpepaa
open Go.RowKit Go.BigFrame Go.Maps Go.ChangeMaps Go.MapKept
set_option linter.unusedVariables false
open Go.Shelf Go.Lib Go.Sort
/-- a slice, nil or not, whose elements are L -/
def LI (u : Value) (L : List KV) (w : World) : Prop := (u = .slice none 0 0 ∧ L = []) ∨ ∃ ad c, u = .slice (some ad) L.length c ∧ LieAt ad (L.length * 2) (pV L) w
theorem LI.ext {u : Value} {L : List KV} {w X : World} (h : LI u L w) (k : Ext w X) : LI u L X := by
  rcases h with h | ⟨ad, c, h1, h2⟩
  · exact .inl h
  · exact .inr ⟨ad, c, h1, h2.carry k⟩
theorem DL.cut {xb m : Nat} {L : List KV} {v : Value} {w : World} (h : DL xb L v w) (hm : m ≤ L.length) : ∃ u1 u2,
    (∀ (o : Oper) (a : Act) (X : World) (x hi : Operand) (_ : o.op = .slice 61 x none (some hi) none) (_ : a.eval x = v) (_ : a.eval hi = .int .i64 (m : Int)), (execOp a.eval o).run Try.prog X = .ok (.value u1) X) ∧
    (∀ (o : Oper) (a : Act) (X : World) (x lo : Operand) (_ : o.op = .slice 61 x (some lo) none none) (_ : a.eval x = v) (_ : a.eval lo = .int .i64 (m : Int)), (execOp a.eval o).run Try.prog X = .ok (.value u2) X) ∧
    LI u1 (L.take m) w ∧ LI u2 (L.drop m) w := by
  rcases h with ⟨rfl, rfl⟩ | ⟨b, cv, rfl, h2, h3, h4⟩
  · obtain rfl : m = 0 := by simpa using hm
    refine ⟨.slice none 0 0, .slice none 0 0, fun o a X x hi ho hx hh => ?_, fun o a X x lo ho hx hl => ?_, .inl ⟨rfl, rfl⟩, .inl ⟨rfl, rfl⟩⟩
    · unfold execOp
      simp only [ho, Option.map_some, Option.map_none, hx, hh]
      simp [go_sem, Try.underlying61]
    · unfold execOp
      simp only [ho, Option.map_some, Option.map_none, hx, hl]
      simp [go_sem, Try.underlying61]
  · obtain ⟨ad, c1, c2⟩ := cut_hi b cv m L hm h2
    exact ⟨_, _, fun o a X x hi ho hx hh => cut_lo b cv m L hm h2 x hi ho hx hh, fun o a X x lo ho hx hl => c1 o a X x lo ho hx hl, .inr ⟨_, _, rfl, lo_lie hm h4⟩, .inr ⟨_, _, rfl, c2 w h4⟩⟩
/-- append of such a slice to a list of the call's own -/
theorem app_li {base : Nat} {A B : List KV} {v u : Value} {w : World} (hO : OwnK 2 base 90 v A.length (pV A) w) (hl : LI u B w) (hb : A.length + B.length ≤ 4398046511105) (hbase : base ≤ w.heap.size) (ty : TypeId) :
    ∃ v' w', (Builtin.append_ #[61, 61] ty #[v, u]).run Try.prog w = .ok v' w' ∧ OwnK 2 base 90 v' (A ++ B).length (pV (A ++ B)) w' ∧ w.grownBy w' v.ownBlock := by
  rcases hl with ⟨rfl, rfl⟩ | ⟨ad, c, rfl, h2⟩
  · obtain ⟨i, z, e1, e2, e3, e4, e5⟩ := elem90.info
    refine ⟨v, w, run_append_owned_none (P := Try.prog) (w := w) base 61 ty 90 i 2 elem90.slice e1 v A.length _ hO, ?_, ⟨rfl, rfl, rfl, Nat.le_refl _, fun _ _ _ => rfl⟩⟩
    rw [List.append_nil]
    exact hO
  · exact app_own hO ad c h2 hb hbase ty
theorem OwnK.down {b b' : Nat} {L : List KV} {v : Value} {w : World} (h : OwnK 2 b 90 v L.length (pV L) w) (hb : b' ≤ b) : OwnK 2 b' 90 v L.length (pV L) w :=
  ⟨h.1, h.2.imp id fun ⟨g, cap, cur, h1, h2, h3⟩ => ⟨g, cap, cur, h1, Nat.le_trans hb h2, h3⟩⟩
/-- .. to one that is empty and full -/
theorem app_full {base b : Nat} {B : List KV} {u : Value} {w : World} (hO : OwnK 2 base 90 (.slice (some ⟨b, 0, none⟩) 0 0) ([] : List KV).length (pV []) w) (hl : LI u B w) (hb : B.length ≤ 4398046511104) (hbase : base ≤ w.heap.size) (ty : TypeId) :
    ∃ v' w', (Builtin.append_ #[61, 61] ty #[.slice (some ⟨b, 0, none⟩) 0 0, u]).run Try.prog w = .ok v' w' ∧ OwnK 2 base 90 v' B.length (pV B) w' ∧ Ext w w' := by
  obtain ⟨i, z, e1, e2, e3, e4, e5⟩ := elem90.info
  rcases hl with ⟨rfl, rfl⟩ | ⟨ad, c, rfl, h2⟩
  · exact ⟨_, w, run_append_owned_none (P := Try.prog) (w := w) base 61 ty 90 i 2 elem90.slice e1 _ 0 _ hO, hO, Ext.refl _⟩
  · by_cases h0 : B = []
    · subst h0
      exact ⟨_, w, run_append_room_cells (P := Try.prog) w 61 ty 90 i elem90.slice e1 b 0 0 0 ad 0 c [] (by simp) (fun j u hj => by simp at hj) (fun u hu => by simp at hu) (by decide) (fun j hj => by simp at hj) (fun j hj => by simp at hj), hO, Ext.refl _⟩
    · have hpos : 0 < B.length := List.length_pos_iff.2 h0
      obtain ⟨v', w', a1, a2, a3⟩ := run_append_arg_grows (P := Try.prog) (w := w) 61 ty 90 i z 2 24 elem90.slice e1 e2 e3 e4 e5 (by decide) ⟨b, 0, none⟩ 0 0 [] rfl (fun j u hj => by simp at hj) ad B.length c (row (B.length * 2) (pV B)) (by rw [row_length]) (fun j w0 hj => by
        obtain ⟨hj', rfl⟩ := row_some hj
        exact h2.1 j hj') (by omega) (by unfold maxLen; omega) (by omega)
      refine ⟨v', w', a1, ?_, ⟨a3.os, a3.tape, a3.output, a3.size, fun k hk => a3.block k hk (by simp)⟩⟩
      have a4 : OwnK 2 w.heap.size 90 v' B.length (pV B) w' := by
        unfold OwnK
        rw [Nat.zero_add, List.nil_append] at a2
        exact a2
      exact a4.down hbase
/-- what the two makers leave -/
def mkR (B : Nat) (p : KV) (i : Nat) (v : Value) (X : World) : Prop :=
  if i = 1 then ∃ b, v = .slice (some ⟨b, 0, none⟩) 0 0 ∧ OwnK 2 B 90 v ([] : List KV).length (pV []) X
  else ∃ b, v = .slice (some ⟨b, 0, none⟩) 1 1 ∧ RowAt b (1 * 2) (pV [p]) X
theorem mkR_cl (B : Nat) (p : KV) (i : Nat) (v : Value) : Cl Ext (mkR B p i v) := fun X Y h k => by
  unfold mkR at h ⊢
  by_cases e : i = 1
  · rw [if_pos e] at h ⊢
    obtain ⟨b, h1, h2⟩ := h
    exact ⟨b, h1, h2.ext k⟩
  · rw [if_neg e] at h ⊢
    obtain ⟨b, h1, h2⟩ := h
    exact ⟨b, h1, h2.carry k⟩
theorem ext_cl (W : World) : Cl Ext fun X => Ext W X := fun _ _ h k => Ext.trans h k
theorem slice_at {a b : Addr} {n m c d : Nat} (h : Value.slice (some a) n c = .slice (some b) m d) : a = b := by
  injection h with h
  injection h
set_option maxRecDepth 20000 in
set_option maxHeartbeats 4000000 in
theorem rset_go {xb : Nat} {L : List KV} {v : Value} {w : World} (h : DcAt xb L v w) (hle : L.length ≤ 4398046511104) (x : Int) (t : ByteArray) : Calls Try.prog 34 #[.pointer (some ⟨xb, 0, none⟩), .int .i64 x, .string t] w fun e w' => e = .returned (.tuple #[]) ∧ DcR xb (kset L x t) w w' := by
  have kD := hideit (rdel_go h hle x)
  have hC := hideit h.row
  have hri := hideit h.ris
  replace hle := hideit hle
  clear h
  go_enter Try.func34, Try.ntmps34
  go_upto_region 0 with (fail)
  refine wp_region_lit ?_
  refine xm [some (.pointer (some ⟨xb, 0, none⟩)), some (.int .i64 (x))] (by kernel_rfl) (by simp [xr, go_sem]) ?_
  simp only [xw, p0, p1, p2, p3]
  refine wpList_call rfl (by simp [go_sem]) ((kD.out).mono ?_)
  rintro e w1 ⟨rfl, hDc⟩
  refine ⟨_, rfl, ?_⟩
  simp only [Act.put, List.setIfInBounds_toArray, List.set_cons_zero, List.set_cons_succ]
  obtain ⟨v1, hDc1, hb0⟩ := hDc
  obtain ⟨ov, cv, hv, hlc, hbb⟩ := hDc1.sl.form
  subst hv
  have hdl := hideit hDc1.sl
  have hr1 := hideit hDc1.ris
  clear hC
  have hC := hideit hDc1.row
  replace hbb := hideit hbb
  replace hb0 := hideit hb0
  clear hDc1 kD
  have hnone := hideit (show kget (kdel L x) x = none by rw [kget_del hri.out, if_pos rfl])
  have hks := hideit (kset_del (L := L) x t)
  have hl1 : (kdel L x).length ≤ 4398046511104 := by have := kdel_length hri.out x; have := hle.out; omega
  generalize kdel L x = L1 at *
  go_upto_region 1 with (fail)
  refine wp_region_lit ?_
  refine xm [some (.int .i64 0)] (by kernel_rfl) (by simp [xr, go_sem]) ?_
  simp only [xw, p0, p1, p2, p3]
  go_wp2
  go_loopw [6] (fun iv X => ∃ m : Nat, m ≤ L1.length ∧ iv = .int .i64 (m : Int) ∧ X = w1 ∧ ∀ j, j < m → (L1.getD j kd).1 < x) (fun iv _ => L1.length - (intOf iv).toNat)
  case atStart => exact ⟨0, Nat.zero_le _, rfl, rfl, fun j hj => by omega⟩
  case round =>
    obtain ⟨m, hm, rfl, rfl, hlo⟩ := hrel
    replace hlo := hideit hlo
    by_cases hlt : m < L1.length
    · have i1 : (m : Int) < (L1.length : Int) := by omega
      obtain ⟨b, hov, hbx, hb⟩ := hbb.out (by omega)
      replace hb := hideit hb
      obtain ⟨p, hp⟩ : ∃ p, L1.getD m kd = p := ⟨_, rfl⟩
      have b0 : wr.cell? ⟨b, m * 2, none⟩ = some (.int .i64 p.1) := by rw [hb.out.1 (m * 2) (by omega), pV_even, hp]
      have b1 : wr.cell? ⟨b, m * 2 + 1, none⟩ = some (.string p.2) := by rw [hb.out.1 (m * 2 + 1) (by omega), pV_odd, hp]
      replace hp := hideit hp
      by_cases hq : p.1 < x
      · go_upto_region 2 with (fail)
        refine wp_region_lit ?_
        have m1 : wr.cell? ⟨xb, 0, none⟩ = some (.slice ov L1.length cv) := hC.out.1 0 (by decide)
        refine xm [some (.int .i64 (m : Int)), some (.pointer (some ⟨xb, 0, none⟩)), some (.pointer (some ⟨xb, 0, none⟩)), some (.pointer (some ⟨xb, 0, none⟩)), some (.slice ov L1.length cv), some (.int .i64 (L1.length : Int)), some (.bool true), some (.bool true), some (.pointer (some ⟨xb, 0, none⟩)), some (.pointer (some ⟨xb, 0, none⟩)), some (.pointer (some ⟨xb, 0, none⟩)), some (.slice ov L1.length cv), some (.int .i64 (m : Int))] (by kernel_rfl) (by simp [xr, go_sem, m1, i1]) ?_
        simp only [xw, p0, p1, p2, p3]
        clear m1
        refine xm [some (.pointer (some ⟨b, m * 2, none⟩))] (by kernel_rfl) (by simp [xr, go_sem, i1, hov]) ?_
        simp only [xw, p0, p1, p2, p3]
        refine xm [some (.pointer (some ⟨b, m * 2, none⟩))] (by kernel_rfl) (by simp [xr, go_sem]) ?_
        simp only [xw, p0, p1, p2, p3]
        refine xm [some (.int .i64 (p.1)), some (.int .i64 (x)), some (.bool true), some (.bool true)] (by kernel_rfl) (by simp [xr, go_sem, b0, hq]) ?_
        simp only [xw, p0, p1, p2, p3]
        go_wp2
        exact ⟨⟨m + 1, by omega, by go_num, by simp, fun j hj => by
          by_cases e : j = m
          · rw [e, hp.out]; exact hq
          · exact hlo.out j (by omega)⟩, by simp [intOf]; omega⟩
      · go_upto_region 2 with (fail)
        refine wp_region_lit ?_
        have m1 : wr.cell? ⟨xb, 0, none⟩ = some (.slice ov L1.length cv) := hC.out.1 0 (by decide)
        refine xm [some (.int .i64 (m : Int)), some (.pointer (some ⟨xb, 0, none⟩)), some (.pointer (some ⟨xb, 0, none⟩)), some (.pointer (some ⟨xb, 0, none⟩)), some (.slice ov L1.length cv), some (.int .i64 (L1.length : Int)), some (.bool true), some (.bool true), some (.pointer (some ⟨xb, 0, none⟩)), some (.pointer (some ⟨xb, 0, none⟩)), some (.pointer (some ⟨xb, 0, none⟩)), some (.slice ov L1.length cv), some (.int .i64 (m : Int))] (by kernel_rfl) (by simp [xr, go_sem, m1, i1]) ?_
        simp only [xw, p0, p1, p2, p3]
        clear m1
        refine xm [some (.pointer (some ⟨b, m * 2, none⟩))] (by kernel_rfl) (by simp [xr, go_sem, i1, hov]) ?_
        simp only [xw, p0, p1, p2, p3]
        refine xm [some (.pointer (some ⟨b, m * 2, none⟩))] (by kernel_rfl) (by simp [xr, go_sem]) ?_
        simp only [xw, p0, p1, p2, p3]
        refine xm [some (.int .i64 (p.1)), some (.int .i64 (x)), some (.bool false), some (.bool false)] (by kernel_rfl) (by simp [xr, go_sem, b0, hq]) ?_
        simp only [xw, p0, p1, p2, p3]
        have hhi := hideit (show m < L1.length → x < (L1.getD m kd).1 from fun _ => by
          have e1 := kget_none.1 hnone.out p (by rw [← hp.out, List.getD_eq_getElem?_getD, List.getElem?_eq_getElem hlt]; exact List.getElem_mem hlt)
          rw [hp.out]
          omega)
        clear b0 b1 hb
        obtain ⟨W, hW⟩ : ∃ W, W = wr.drew := ⟨_, rfl⟩
        have hD9 : Ext wr W := by rw [hW]; exact (Ext.refl wr).draw
        obtain ⟨u1, u2, s1, s2, l1, l2⟩ := hdl.out.cut (m := m) (by omega)
        have e0 : ∀ X, Ext W X → X.cell? ⟨xb, 0, none⟩ = some (.slice ov L1.length cv) := fun X hX => (hC.out.carry (Ext.trans hD9 hX)).1 0 (by decide)
        have ez : ∀ X, Ext W X → X.frozen? ⟨xb, 0, none⟩ = false := fun X hX => (hC.out.carry (Ext.trans hD9 hX)).2.1 0 (by decide)
        have g1 : ∀ X, Ext W X → LI u1 (L1.take m) X := fun X hX => l1.ext (Ext.trans hD9 hX)
        have g2 : ∀ X, Ext W X → LI u2 (L1.drop m) X := fun X hX => l2.ext (Ext.trans hD9 hX)
        have hB9 : But xb w W := hb0.out.trans (But.of_ext hD9)
        have hxl : xb < W.heap.size := Nat.lt_of_lt_of_le hC.out.2.2 (Below.size hD9)
        clear l1 l2
        go_upto_region 4 with (fail)
        refine wp_region_ladm Ext (fun X => Ext W X) (mkR W.heap.size (x, t)) [23] [13, 20] [(0, 0), (0, 2), (0, 3), (0, 4), (0, 5), (0, 6), (0, 7), (0, 9), (0, 10), (0, 11), (0, 14), (0, 15), (0, 16), (0, 17), (0, 18), (0, 19), (2, 1), (1, 8), (2, 12), (1, 13), (1, 20), (0, 21), (0, 22), (1, 23)] (by kernel_rfl) (by kernel_rfl) (by decide +kernel) (by decide +kernel) (by decide +kernel) (by decide +kernel) (mkR_cl _ _) (ext_cl W) (by rw [hW]; exact Ext.refl _) ?_
        refine wpQ_f _ (.pointer (some ⟨xb, 0, none⟩)) rfl rfl (fun X hX => by simp [go_sem]) ?_
        simp only [List.getElem_toArray, List.getElem_cons_zero, Act.put, List.setIfInBounds_toArray, List.set_cons_zero, List.set_cons_succ]
        refine wpQ_f _ (.pointer (some ⟨xb, 0, none⟩)) rfl rfl (fun X hX => by simp [go_sem]) ?_
        simp only [List.getElem_toArray, List.getElem_cons_zero, List.getElem_cons_succ, Act.put, List.setIfInBounds_toArray, List.set_cons_zero, List.set_cons_succ]
        refine wpQ_f _ (.pointer (some ⟨xb, 0, none⟩)) rfl rfl (fun X hX => by simp [go_sem]) ?_
        simp only [List.getElem_toArray, List.getElem_cons_zero, List.getElem_cons_succ, Act.put, List.setIfInBounds_toArray, List.set_cons_zero, List.set_cons_succ]
        refine wpQ_f _ (.pointer (some ⟨xb, 0, none⟩)) rfl rfl (fun X hX => by simp [go_sem]) ?_
        simp only [List.getElem_toArray, List.getElem_cons_zero, List.getElem_cons_succ, Act.put, List.setIfInBounds_toArray, List.set_cons_zero, List.set_cons_succ]
        refine wpQ_f _ (.slice ov L1.length cv) rfl rfl (fun X hX => by have e := e0 X hX; simp [go_sem, e]) ?_
        simp only [List.getElem_toArray, List.getElem_cons_zero, List.getElem_cons_succ, Act.put, List.setIfInBounds_toArray, List.set_cons_zero, List.set_cons_succ]
        refine wpQ_f _ (.int .i64 (m : Int)) rfl rfl (fun X hX => by simp [go_sem]) ?_
        simp only [List.getElem_toArray, List.getElem_cons_zero, List.getElem_cons_succ, Act.put, List.setIfInBounds_toArray, List.set_cons_zero, List.set_cons_succ]
        refine wpQ_f _ (u1) rfl rfl (fun X hX => s1 _ _ X (.tmp 36) (.tmp 37) rfl rfl rfl) ?_
        simp only [List.getElem_toArray, List.getElem_cons_zero, List.getElem_cons_succ, Act.put, List.setIfInBounds_toArray, List.set_cons_zero, List.set_cons_succ]
        refine wpQ_f _ (.int .i64 x) rfl rfl (fun X hX => by simp [go_sem]) ?_
        simp only [List.getElem_toArray, List.getElem_cons_zero, List.getElem_cons_succ, Act.put, List.setIfInBounds_toArray, List.set_cons_zero, List.set_cons_succ]
        refine wpQ_f _ (.string t) rfl rfl (fun X hX => by simp [go_sem]) ?_
        simp only [List.getElem_toArray, List.getElem_cons_zero, List.getElem_cons_succ, Act.put, List.setIfInBounds_toArray, List.set_cons_zero, List.set_cons_succ]
        refine wpQ_f _ (.agg #[.int .i64 x, .string t]) rfl rfl (fun X hX => by simp [go_sem]) ?_
        simp only [List.getElem_toArray, List.getElem_cons_zero, List.getElem_cons_succ, Act.put, List.setIfInBounds_toArray, List.set_cons_zero, List.set_cons_succ]
        refine wpQ_f _ (.pointer (some ⟨xb, 0, none⟩)) rfl rfl (fun X hX => by simp [go_sem]) ?_
        simp only [List.getElem_toArray, List.getElem_cons_zero, List.getElem_cons_succ, Act.put, List.setIfInBounds_toArray, List.set_cons_zero, List.set_cons_succ]
        refine wpQ_f _ (.pointer (some ⟨xb, 0, none⟩)) rfl rfl (fun X hX => by simp [go_sem]) ?_
        simp only [List.getElem_toArray, List.getElem_cons_zero, List.getElem_cons_succ, Act.put, List.setIfInBounds_toArray, List.set_cons_zero, List.set_cons_succ]
        refine wpQ_f _ (.pointer (some ⟨xb, 0, none⟩)) rfl rfl (fun X hX => by simp [go_sem]) ?_
        simp only [List.getElem_toArray, List.getElem_cons_zero, List.getElem_cons_succ, Act.put, List.setIfInBounds_toArray, List.set_cons_zero, List.set_cons_succ]
        refine wpQ_f _ (.slice ov L1.length cv) rfl rfl (fun X hX => by have e := e0 X hX; simp [go_sem, e]) ?_
        simp only [List.getElem_toArray, List.getElem_cons_zero, List.getElem_cons_succ, Act.put, List.setIfInBounds_toArray, List.set_cons_zero, List.set_cons_succ]
        refine wpQ_f _ (.int .i64 (m : Int)) rfl rfl (fun X hX => by simp [go_sem]) ?_
        simp only [List.getElem_toArray, List.getElem_cons_zero, List.getElem_cons_succ, Act.put, List.setIfInBounds_toArray, List.set_cons_zero, List.set_cons_succ]
        refine wpQ_f _ (u2) rfl rfl (fun X hX => s2 _ _ X (.tmp 48) (.tmp 49) rfl rfl rfl) ?_
        simp only [List.getElem_toArray, List.getElem_cons_zero, List.getElem_cons_succ, Act.put, List.setIfInBounds_toArray, List.set_cons_zero, List.set_cons_succ]
        refine wpQ_m _ rfl rfl (fun X hX => ⟨.slice (some ⟨X.heap.size, 0, none⟩) 0 0, X.alloc (.cells #[] 90), by simp [go_sem], ⟨X.heap.size, rfl, (own_made X).down (Below.size hX)⟩, (Below.refl _ _).alloc (Nat.le_refl _) _⟩) ?_
        rintro v5 ⟨_, _, b5, rfl, _⟩
        simp only [List.getElem_toArray, List.getElem_cons_zero, List.getElem_cons_succ, Act.put, List.setIfInBounds_toArray, List.set_cons_zero, List.set_cons_succ]
        refine wpQ_to _ rfl rfl fun X hX => ?_
        obtain ⟨hX1, b5', e5, O5⟩ := hX
        have e6 := slice_at e5
        injection e6 with e6
        subst e6
        obtain ⟨v8, X8, r8, O8, E8⟩ := app_full (b := b5) (w := X) (base := W.heap.size) O5 (g1 X hX1) (by rw [List.length_take]; omega) (Below.size hX1) 61
        refine ⟨v8, X8, exec_append (.tmp 32) (.tmp 38) 61 61 rfl _ _ v8 rfl rfl r8, fun Y => (Ext W Y ∧ mkR W.heap.size (x, t) 1 (.slice (some ⟨b5, 0, none⟩) 0 0) Y) ∧ OwnK 2 W.heap.size 90 v8 (L1.take m).length (pV (L1.take m)) Y, ⟨⟨Ext.trans hX1 E8, mkR_cl _ _ 1 _ _ _ ⟨b5, rfl, O5⟩ E8⟩, O8⟩, .inr (.inr ⟨fun Y hY => hY.1, E8, fun A B hA k => ⟨⟨Ext.trans hA.1.1 k, mkR_cl _ _ 1 _ _ _ hA.1.2 k⟩, hA.2.ext k⟩⟩), ?_⟩
        clear r8 O8 E8 O5 hX1 X X8
        simp only [List.getElem_toArray, List.getElem_cons_zero, List.getElem_cons_succ, Act.put, List.setIfInBounds_toArray, List.set_cons_zero, List.set_cons_succ]
        refine wpQ_m _ rfl rfl (fun X hX => ⟨.slice (some ⟨X.heap.size, 0, none⟩) 1 1, X.alloc (.cells #[.int .i64 x, .string t] 90), by simp [go_sem], ⟨X.heap.size, rfl, RowAt.newOf X (1 * 2) _ 90 _ fun j hj => by
          rcases (by omega : j = 0 ∨ j = 1) with rfl | rfl <;> rfl⟩, (Below.refl _ _).alloc (Nat.le_refl _) _⟩) ?_
        rintro v12 ⟨_, _, b12, rfl, _⟩
        simp only [List.getElem_toArray, List.getElem_cons_zero, List.getElem_cons_succ, Act.put, List.setIfInBounds_toArray, List.set_cons_zero, List.set_cons_succ]
        refine wpQ_to _ rfl rfl fun X hX => ?_
        obtain ⟨⟨⟨hX1, _⟩, O8⟩, b', e12, R12⟩ := hX
        have e13 := slice_at e12
        injection e13 with e13
        subst e13
        obtain ⟨v13, X13, r13, O13, gr13⟩ := app_own (A := L1.take m) (B := [(x, t)]) O8 ⟨b12, 0, none⟩ 1 (RowAt.lie R12 (1 * 2) (Nat.le_refl _)) (by rw [List.length_take, List.length_singleton]; omega) (Below.size hX1) 61
        have E13 : Ext W X13 := Below.trans hX1 (below_grown (Below.size hX1) gr13 fun k hk => (O8.lt k hk).1)
        refine ⟨v13, X13, exec_append (.tmp 39) (.tmp 43) 61 61 rfl _ _ v13 rfl rfl r13, fun Y => Y = X13, rfl, .inr (.inl ⟨by simp, fun Y hY => by rw [hY]; exact E13⟩), ?_⟩
        simp only [List.getElem_toArray, List.getElem_cons_zero, List.getElem_cons_succ, Act.put, List.setIfInBounds_toArray, List.set_cons_zero, List.set_cons_succ]
        refine wpQ_to _ rfl rfl fun X9 hX9 => ?_
        subst hX9
        obtain ⟨v20, X20, r20, O20, gr20⟩ := app_li (A := L1.take m ++ [(x, t)]) (B := L1.drop m) O13 (g2 _ E13) (by rw [List.length_append, List.length_take, List.length_drop, List.length_singleton]; omega) (Below.size E13) 61
        have E20 : Ext W X20 := Below.trans E13 (below_grown (Below.size E13) gr20 fun k hk => (O13.lt k hk).1)
        refine ⟨v20, X20, exec_append (.tmp 44) (.tmp 50) 61 61 rfl _ _ v20 rfl rfl r20, fun Y => Y = X20, rfl, .inr (.inl ⟨by simp, fun Y hY => by rw [hY]; exact E20⟩), ?_⟩
        simp only [List.getElem_toArray, List.getElem_cons_zero, List.getElem_cons_succ, Act.put, List.setIfInBounds_toArray, List.set_cons_zero, List.set_cons_succ]
        refine wpQ_f _ (.pointer (some ⟨xb, 0, none⟩)) rfl rfl (fun X hX => by simp [go_sem]) ?_
        simp only [List.getElem_toArray, List.getElem_cons_zero, List.getElem_cons_succ, Act.put, List.setIfInBounds_toArray, List.set_cons_zero, List.set_cons_succ]
        refine wpQ_f _ (.pointer (some ⟨xb, 0, none⟩)) rfl rfl (fun X hX => by simp [go_sem]) ?_
        simp only [List.getElem_toArray, List.getElem_cons_zero, List.getElem_cons_succ, Act.put, List.setIfInBounds_toArray, List.set_cons_zero, List.set_cons_succ]
        have cc := e0 _ E20
        have cz := ez _ E20
        obtain ⟨so, sc, es⟩ := O20.form
        refine wpQ_st _ rfl rfl fun X9 hX9 => ?_
        subst hX9
        refine ⟨X9.setCell ⟨xb, 0, none⟩ v20, by simp [go_sem, cc, cz, es], fun Y => Y = X9.setCell ⟨xb, 0, none⟩ v20, rfl, .inl (by simp), ?_⟩
        refine wpQ_nil fun Y hY => ?_
        have hset := set_at (t := t) hr1.out (k := m) (by omega) hlo.out hhi.out
        rw [← hset] at O20
        have hD : DL xb (kset L1 x t) v20 (X9.setCell ⟨xb, 0, none⟩ v20) := (O20.dl hxl).setCell
        have hR : RowAt xb 1 (fun _ => v20) (X9.setCell ⟨xb, 0, none⟩ v20) := ((hC.out.carry (Ext.trans hD9 E20)).set 0 v20).congr fun j hj => by rw [if_pos (by omega)]
        have hB : But xb w (X9.setCell ⟨xb, 0, none⟩ v20) := (hB9.trans (But.of_ext E20)).set 0 v20
        rw [← hY] at hD hR hB
        have hfin : Hid (DcR xb (kset L x t) w Y) := ⟨v20, ⟨hR, by rw [← hks.out]; exact hD, by rw [← hks.out]; exact hr1.out.set x t⟩, hB⟩
        simp only [Act.put]
        clear hY cc cz es O20 r20 gr20 O13 r13 gr13 O8 R12 hX1 E13 E20 ez e0 g1 g2 s1 s2 hD hR hB hset hB9
        go_wp2
        go_end0
        exact ⟨rfl, hfin.out⟩
    · have i1 : ¬ (m : Int) < (L1.length : Int) := by omega
      go_upto_region 2 with (fail)
      refine wp_region_lit ?_
      have m1 : wr.cell? ⟨xb, 0, none⟩ = some (.slice ov L1.length cv) := hC.out.1 0 (by decide)
      refine xm [some (.int .i64 (m : Int)), some (.pointer (some ⟨xb, 0, none⟩)), some (.pointer (some ⟨xb, 0, none⟩)), some (.pointer (some ⟨xb, 0, none⟩)), some (.slice ov L1.length cv), some (.int .i64 (L1.length : Int)), some (.bool false), some (.bool false), none, none, none, none, none, none, none, none, none, none, some (.bool false)] (by kernel_rfl) (by simp [xr, go_sem, m1, i1]) ?_
      simp only [xw, p0, p1, p2, p3]
      clear m1
      have hhi := hideit (show m < L1.length → x < (L1.getD m kd).1 from fun h => absurd h hlt)
      obtain ⟨W, hW⟩ : ∃ W, W = wr.drew := ⟨_, rfl⟩
      have hD9 : Ext wr W := by rw [hW]; exact (Ext.refl wr).draw
      obtain ⟨u1, u2, s1, s2, l1, l2⟩ := hdl.out.cut (m := m) (by omega)
      have e0 : ∀ X, Ext W X → X.cell? ⟨xb, 0, none⟩ = some (.slice ov L1.length cv) := fun X hX => (hC.out.carry (Ext.trans hD9 hX)).1 0 (by decide)
      have ez : ∀ X, Ext W X → X.frozen? ⟨xb, 0, none⟩ = false := fun X hX => (hC.out.carry (Ext.trans hD9 hX)).2.1 0 (by decide)
      have g1 : ∀ X, Ext W X → LI u1 (L1.take m) X := fun X hX => l1.ext (Ext.trans hD9 hX)
      have g2 : ∀ X, Ext W X → LI u2 (L1.drop m) X := fun X hX => l2.ext (Ext.trans hD9 hX)
      have hB9 : But xb w W := hb0.out.trans (But.of_ext hD9)
      have hxl : xb < W.heap.size := Nat.lt_of_lt_of_le hC.out.2.2 (Below.size hD9)
      clear l1 l2
      go_upto_region 4 with (fail)
      refine wp_region_ladm Ext (fun X => Ext W X) (mkR W.heap.size (x, t)) [23] [13, 20] [(0, 0), (0, 2), (0, 3), (0, 4), (0, 5), (0, 6), (0, 7), (0, 9), (0, 10), (0, 11), (0, 14), (0, 15), (0, 16), (0, 17), (0, 18), (0, 19), (2, 1), (1, 8), (2, 12), (1, 13), (1, 20), (0, 21), (0, 22), (1, 23)] (by kernel_rfl) (by kernel_rfl) (by decide +kernel) (by decide +kernel) (by decide +kernel) (by decide +kernel) (mkR_cl _ _) (ext_cl W) (by rw [hW]; exact Ext.refl _) ?_
      refine wpQ_f _ (.pointer (some ⟨xb, 0, none⟩)) rfl rfl (fun X hX => by simp [go_sem]) ?_
      simp only [List.getElem_toArray, List.getElem_cons_zero, Act.put, List.setIfInBounds_toArray, List.set_cons_zero, List.set_cons_succ]
      refine wpQ_f _ (.pointer (some ⟨xb, 0, none⟩)) rfl rfl (fun X hX => by simp [go_sem]) ?_
      simp only [List.getElem_toArray, List.getElem_cons_zero, List.getElem_cons_succ, Act.put, List.setIfInBounds_toArray, List.set_cons_zero, List.set_cons_succ]
      refine wpQ_f _ (.pointer (some ⟨xb, 0, none⟩)) rfl rfl (fun X hX => by simp [go_sem]) ?_
      simp only [List.getElem_toArray, List.getElem_cons_zero, List.getElem_cons_succ, Act.put, List.setIfInBounds_toArray, List.set_cons_zero, List.set_cons_succ]
      refine wpQ_f _ (.pointer (some ⟨xb, 0, none⟩)) rfl rfl (fun X hX => by simp [go_sem]) ?_
      simp only [List.getElem_toArray, List.getElem_cons_zero, List.getElem_cons_succ, Act.put, List.setIfInBounds_toArray, List.set_cons_zero, List.set_cons_succ]
      refine wpQ_f _ (.slice ov L1.length cv) rfl rfl (fun X hX => by have e := e0 X hX; simp [go_sem, e]) ?_
      simp only [List.getElem_toArray, List.getElem_cons_zero, List.getElem_cons_succ, Act.put, List.setIfInBounds_toArray, List.set_cons_zero, List.set_cons_succ]
      refine wpQ_f _ (.int .i64 (m : Int)) rfl rfl (fun X hX => by simp [go_sem]) ?_
      simp only [List.getElem_toArray, List.getElem_cons_zero, List.getElem_cons_succ, Act.put, List.setIfInBounds_toArray, List.set_cons_zero, List.set_cons_succ]
      refine wpQ_f _ (u1) rfl rfl (fun X hX => s1 _ _ X (.tmp 36) (.tmp 37) rfl rfl rfl) ?_
      simp only [List.getElem_toArray, List.getElem_cons_zero, List.getElem_cons_succ, Act.put, List.setIfInBounds_toArray, List.set_cons_zero, List.set_cons_succ]
      refine wpQ_f _ (.int .i64 x) rfl rfl (fun X hX => by simp [go_sem]) ?_
      simp only [List.getElem_toArray, List.getElem_cons_zero, List.getElem_cons_succ, Act.put, List.setIfInBounds_toArray, List.set_cons_zero, List.set_cons_succ]
      refine wpQ_f _ (.string t) rfl rfl (fun X hX => by simp [go_sem]) ?_
      simp only [List.getElem_toArray, List.getElem_cons_zero, List.getElem_cons_succ, Act.put, List.setIfInBounds_toArray, List.set_cons_zero, List.set_cons_succ]
      refine wpQ_f _ (.agg #[.int .i64 x, .string t]) rfl rfl (fun X hX => by simp [go_sem]) ?_
      simp only [List.getElem_toArray, List.getElem_cons_zero, List.getElem_cons_succ, Act.put, List.setIfInBounds_toArray, List.set_cons_zero, List.set_cons_succ]
      refine wpQ_f _ (.pointer (some ⟨xb, 0, none⟩)) rfl rfl (fun X hX => by simp [go_sem]) ?_
      simp only [List.getElem_toArray, List.getElem_cons_zero, List.getElem_cons_succ, Act.put, List.setIfInBounds_toArray, List.set_cons_zero, List.set_cons_succ]
      refine wpQ_f _ (.pointer (some ⟨xb, 0, none⟩)) rfl rfl (fun X hX => by simp [go_sem]) ?_
      simp only [List.getElem_toArray, List.getElem_cons_zero, List.getElem_cons_succ, Act.put, List.setIfInBounds_toArray, List.set_cons_zero, List.set_cons_succ]
      refine wpQ_f _ (.pointer (some ⟨xb, 0, none⟩)) rfl rfl (fun X hX => by simp [go_sem]) ?_
      simp only [List.getElem_toArray, List.getElem_cons_zero, List.getElem_cons_succ, Act.put, List.setIfInBounds_toArray, List.set_cons_zero, List.set_cons_succ]
      refine wpQ_f _ (.slice ov L1.length cv) rfl rfl (fun X hX => by have e := e0 X hX; simp [go_sem, e]) ?_
      simp only [List.getElem_toArray, List.getElem_cons_zero, List.getElem_cons_succ, Act.put, List.setIfInBounds_toArray, List.set_cons_zero, List.set_cons_succ]
      refine wpQ_f _ (.int .i64 (m : Int)) rfl rfl (fun X hX => by simp [go_sem]) ?_
      simp only [List.getElem_toArray, List.getElem_cons_zero, List.getElem_cons_succ, Act.put, List.setIfInBounds_toArray, List.set_cons_zero, List.set_cons_succ]
      refine wpQ_f _ (u2) rfl rfl (fun X hX => s2 _ _ X (.tmp 48) (.tmp 49) rfl rfl rfl) ?_
      simp only [List.getElem_toArray, List.getElem_cons_zero, List.getElem_cons_succ, Act.put, List.setIfInBounds_toArray, List.set_cons_zero, List.set_cons_succ]
      refine wpQ_m _ rfl rfl (fun X hX => ⟨.slice (some ⟨X.heap.size, 0, none⟩) 0 0, X.alloc (.cells #[] 90), by simp [go_sem], ⟨X.heap.size, rfl, (own_made X).down (Below.size hX)⟩, (Below.refl _ _).alloc (Nat.le_refl _) _⟩) ?_
      rintro v5 ⟨_, _, b5, rfl, _⟩
      simp only [List.getElem_toArray, List.getElem_cons_zero, List.getElem_cons_succ, Act.put, List.setIfInBounds_toArray, List.set_cons_zero, List.set_cons_succ]
      refine wpQ_to _ rfl rfl fun X hX => ?_
      obtain ⟨hX1, b5', e5, O5⟩ := hX
      have e6 := slice_at e5
      injection e6 with e6
      subst e6
      obtain ⟨v8, X8, r8, O8, E8⟩ := app_full (b := b5) (w := X) (base := W.heap.size) O5 (g1 X hX1) (by rw [List.length_take]; omega) (Below.size hX1) 61
      refine ⟨v8, X8, exec_append (.tmp 32) (.tmp 38) 61 61 rfl _ _ v8 rfl rfl r8, fun Y => (Ext W Y ∧ mkR W.heap.size (x, t) 1 (.slice (some ⟨b5, 0, none⟩) 0 0) Y) ∧ OwnK 2 W.heap.size 90 v8 (L1.take m).length (pV (L1.take m)) Y, ⟨⟨Ext.trans hX1 E8, mkR_cl _ _ 1 _ _ _ ⟨b5, rfl, O5⟩ E8⟩, O8⟩, .inr (.inr ⟨fun Y hY => hY.1, E8, fun A B hA k => ⟨⟨Ext.trans hA.1.1 k, mkR_cl _ _ 1 _ _ _ hA.1.2 k⟩, hA.2.ext k⟩⟩), ?_⟩
      clear r8 O8 E8 O5 hX1 X X8
      simp only [List.getElem_toArray, List.getElem_cons_zero, List.getElem_cons_succ, Act.put, List.setIfInBounds_toArray, List.set_cons_zero, List.set_cons_succ]
      refine wpQ_m _ rfl rfl (fun X hX => ⟨.slice (some ⟨X.heap.size, 0, none⟩) 1 1, X.alloc (.cells #[.int .i64 x, .string t] 90), by simp [go_sem], ⟨X.heap.size, rfl, RowAt.newOf X (1 * 2) _ 90 _ fun j hj => by
        rcases (by omega : j = 0 ∨ j = 1) with rfl | rfl <;> rfl⟩, (Below.refl _ _).alloc (Nat.le_refl _) _⟩) ?_
      rintro v12 ⟨_, _, b12, rfl, _⟩
      simp only [List.getElem_toArray, List.getElem_cons_zero, List.getElem_cons_succ, Act.put, List.setIfInBounds_toArray, List.set_cons_zero, List.set_cons_succ]
      refine wpQ_to _ rfl rfl fun X hX => ?_
      obtain ⟨⟨⟨hX1, _⟩, O8⟩, b', e12, R12⟩ := hX
      have e13 := slice_at e12
      injection e13 with e13
      subst e13
      obtain ⟨v13, X13, r13, O13, gr13⟩ := app_own (A := L1.take m) (B := [(x, t)]) O8 ⟨b12, 0, none⟩ 1 (RowAt.lie R12 (1 * 2) (Nat.le_refl _)) (by rw [List.length_take, List.length_singleton]; omega) (Below.size hX1) 61
      have E13 : Ext W X13 := Below.trans hX1 (below_grown (Below.size hX1) gr13 fun k hk => (O8.lt k hk).1)
      refine ⟨v13, X13, exec_append (.tmp 39) (.tmp 43) 61 61 rfl _ _ v13 rfl rfl r13, fun Y => Y = X13, rfl, .inr (.inl ⟨by simp, fun Y hY => by rw [hY]; exact E13⟩), ?_⟩
      simp only [List.getElem_toArray, List.getElem_cons_zero, List.getElem_cons_succ, Act.put, List.setIfInBounds_toArray, List.set_cons_zero, List.set_cons_succ]
      refine wpQ_to _ rfl rfl fun X9 hX9 => ?_
      subst hX9
      obtain ⟨v20, X20, r20, O20, gr20⟩ := app_li (A := L1.take m ++ [(x, t)]) (B := L1.drop m) O13 (g2 _ E13) (by rw [List.length_append, List.length_take, List.length_drop, List.length_singleton]; omega) (Below.size E13) 61
      have E20 : Ext W X20 := Below.trans E13 (below_grown (Below.size E13) gr20 fun k hk => (O13.lt k hk).1)
      refine ⟨v20, X20, exec_append (.tmp 44) (.tmp 50) 61 61 rfl _ _ v20 rfl rfl r20, fun Y => Y = X20, rfl, .inr (.inl ⟨by simp, fun Y hY => by rw [hY]; exact E20⟩), ?_⟩
      simp only [List.getElem_toArray, List.getElem_cons_zero, List.getElem_cons_succ, Act.put, List.setIfInBounds_toArray, List.set_cons_zero, List.set_cons_succ]
      refine wpQ_f _ (.pointer (some ⟨xb, 0, none⟩)) rfl rfl (fun X hX => by simp [go_sem]) ?_
      simp only [List.getElem_toArray, List.getElem_cons_zero, List.getElem_cons_succ, Act.put, List.setIfInBounds_toArray, List.set_cons_zero, List.set_cons_succ]
      refine wpQ_f _ (.pointer (some ⟨xb, 0, none⟩)) rfl rfl (fun X hX => by simp [go_sem]) ?_
      simp only [List.getElem_toArray, List.getElem_cons_zero, List.getElem_cons_succ, Act.put, List.setIfInBounds_toArray, List.set_cons_zero, List.set_cons_succ]
      have cc := e0 _ E20
      have cz := ez _ E20
      obtain ⟨so, sc, es⟩ := O20.form
      refine wpQ_st _ rfl rfl fun X9 hX9 => ?_
      subst hX9
      refine ⟨X9.setCell ⟨xb, 0, none⟩ v20, by simp [go_sem, cc, cz, es], fun Y => Y = X9.setCell ⟨xb, 0, none⟩ v20, rfl, .inl (by simp), ?_⟩
      refine wpQ_nil fun Y hY => ?_
      have hset := set_at (t := t) hr1.out (k := m) (by omega) hlo.out hhi.out
      rw [← hset] at O20
      have hD : DL xb (kset L1 x t) v20 (X9.setCell ⟨xb, 0, none⟩ v20) := (O20.dl hxl).setCell
      have hR : RowAt xb 1 (fun _ => v20) (X9.setCell ⟨xb, 0, none⟩ v20) := ((hC.out.carry (Ext.trans hD9 E20)).set 0 v20).congr fun j hj => by rw [if_pos (by omega)]
      have hB : But xb w (X9.setCell ⟨xb, 0, none⟩ v20) := (hB9.trans (But.of_ext E20)).set 0 v20
      rw [← hY] at hD hR hB
      have hfin : Hid (DcR xb (kset L x t) w Y) := ⟨v20, ⟨hR, by rw [← hks.out]; exact hD, by rw [← hks.out]; exact hr1.out.set x t⟩, hB⟩
      simp only [Act.put]
      clear hY cc cz es O20 r20 gr20 O13 r13 gr13 O8 R12 hX1 E13 E20 ez e0 g1 g2 s1 s2 hD hR hB hset hB9
      go_wp2
      go_end0
      exact ⟨rfl, hfin.out⟩
end Go.Proofs.Ytboncdlihgpepaa
