/-
  The document's Write, where it writes. Ops that came in, with how long their bytes and lists may be.
-/
import Derived.Test.YtfaeieaelfjlpaaQ31
import Derived.Test.YtfaeieaelfjlpaaQ32
import Derived.ArgAppend
import Derived.Test.YtfaeieaelfjlpaaQ23
namespace Go.Proofs.Ytfaeieaelfjlpaa
open Go.RowKit Go.BigFrame Go.Maps
/-- a list put behind a list that is full -/
theorem run_full42 {B : Nat} {b : Nat} {u : Value} {m : Nat} {q : Nat → Value} {w : World} (hU : OwnB B 9 u m q w) (h1 : ∀ j, j < m → (q j).oneCell' = true) (hn : m ≤ 4398046511104) (g : Nat → Value) (base : Nat) (hO : OwnB base 9 (.slice (some ⟨b, 0, none⟩) 0 0) 0 g w) (hbs : base ≤ w.heap.size) (ty : TypeId) :
    ∃ v' w', (Builtin.append_ #[42, 42] ty #[.slice (some ⟨b, 0, none⟩) 0 0, u]).run Try.prog w = .ok v' w' ∧ OwnB base 9 v' m q w' ∧ Ext w w' := by
  obtain ⟨i, z, e1, e2, e3, e4, e5⟩ := elem42.info
  have hU0 := hU
  have hN : m = 0 → OwnB base 9 (.slice (some ⟨b, 0, none⟩) 0 0) m q w := fun e => by subst e; exact hO.congr fun j hj => absurd hj (by omega)
  rcases hU.2 with ⟨hu, h2⟩ | ⟨b2, cap, cur, rfl, hb2, hg, hc, hm, _, ht⟩
  · subst hu
    obtain rfl : m = 0 := by simpa using h2
    exact ⟨_, w, run_append_owned_none (P := Try.prog) (w := w) base 42 ty 9 i 1 elem42.slice e1 _ 0 (row 0 g) hO, hN rfl, Ext.refl _⟩
  · by_cases hm0 : m = 0
    · subst hm0
      exact ⟨_, w, run_append_room_cells (P := Try.prog) w 42 ty 9 i elem42.slice e1 b 0 0 0 ⟨b2, 0, none⟩ 0 cap [] (by simp) (fun j u hj => by simp at hj) (fun u hu => by simp at hu) (by decide) (fun j hj => by simp at hj) (fun j hj => by simp at hj), hN rfl, Ext.refl _⟩
    · obtain ⟨v', w', a1, a2, a3⟩ := run_append_arg_grows (P := Try.prog) (w := w) 42 ty 9 i z 1 16 elem42.slice e1 e2 e3 e4 e5 (by decide) ⟨b, 0, none⟩ 0 0 [] rfl (fun j u hj => by simp at hj) ⟨b2, 0, none⟩ m cap (row m q) (by rw [row_length, Nat.mul_one]) (fun j w0 hj => by
        obtain ⟨hj', rfl⟩ := row_some hj
        obtain ⟨b', cap', e, _, _, _, hR⟩ := hU0.lies (by omega)
        have e2 : b2 = b' := congrArg Addr.block (Option.some.inj (Value.slice.inj e).1)
        subst e2
        exact (hR.lie m (Nat.le_refl _)).1 j hj') (by omega) (by unfold maxLen; omega) (by omega)
      refine ⟨v', w', a1, ?_, ⟨a3.os, a3.tape, a3.output, a3.size, fun k hk => a3.block k hk (by simp)⟩⟩
      have a4 : OwnB w.heap.size 9 v' m q w' := by
        unfold OwnB
        rw [Nat.zero_add, List.nil_append] at a2
        exact a2
      exact a4.down hbs
section
variable {F G : Nat → Prop} {x : Nat} {s : DSt} {stp : Bool} {cl : Int} {R : RM} {W Y : World}
/-- the list of block n, one text more, stands in the block -/
theorem rw_fin (h : Hid (RdM G x s stp cl R W)) (E : Ext W Y) (n : Nat) {v : Value} {g : Nat → Value} (O : OwnB W.heap.size 9 v (s.kc n + 1) g Y) (f : Nat → BitVec 8) (hg : ∀ j, j < s.kc n + 1 → g j = .string (tx (upN (s.uc n) (s.kc n) f j))) :
    ∃ G' R', R'.bb = R.bb ∧ RdM G' x (wrS s n f) stp cl R' (Y.setCell ⟨R.bb, n * 2 + 1, none⟩ v) ∧ Keeps (fun i => i = x ∨ i = R.bb) W (Y.setCell ⟨R.bb, n * 2 + 1, none⟩ v) ∧ ∀ i, G' i → G i ∨ W.heap.size ≤ i := by
  have h := h.out
  have h1 := h.ext E
  have O1 : OwnB 0 9 v (s.kc n + 1) (fun j => .string (tx (upN (s.uc n) (s.kc n) f j))) Y := (O.congr hg).down (Nat.zero_le _)
  have ha : ∀ b, v.ownBlock = some b → W.heap.size ≤ b := fun b hb => (O.lt b hb).1
  obtain ⟨h2, k2⟩ := h1.setL1 n v (s.kc n + 1) (upN (s.uc n) (s.kc n) f) O1 (fun b hb => by
    have := ha b hb
    have e1 := h.lt _ h.gx
    have e2 := h.lt _ h.gb
    exact ⟨by omega, by omega⟩)
  refine ⟨_, { R with lv := upN R.lv n v }, rfl, h2.congr (s' := wrS s n f) rfl (fun _ _ => rfl) (fun _ _ => rfl) (fun _ _ => rfl), (Keeps.of_ext E).trans (F' := fun i => i = x ∨ i = R.bb) k2 fun i hi => .inl hi, fun i hi => ?_⟩
  rcases hi with hi | hi
  · exact .inl hi
  · exact .inr (ha i hi)
/-- what the two makers leave -/
def mkR (B : Nat) (a : ByteArray) (i : Nat) (v : Value) (X : World) : Prop :=
  if i = 5 then ∃ b, v = .slice (some ⟨b, 0, none⟩) 0 0 ∧ b < X.heap.size ∧ OwnB B 9 v 0 (fun _ => undef) X
  else ∃ b, v = .slice (some ⟨b, 0, none⟩) 1 1 ∧ X.cell? ⟨b, 0, none⟩ = some (.string a) ∧ b < X.heap.size
theorem mkR_cl (B : Nat) (a : ByteArray) (i : Nat) (v : Value) : Cl Ext (mkR B a i v) := fun X Y h k => by
  unfold mkR at h ⊢
  by_cases e : i = 5
  · rw [if_pos e] at h ⊢
    obtain ⟨b, h1, h2, h3⟩ := h
    exact ⟨b, h1, Nat.lt_of_lt_of_le h2 (Below.size k), h3.ext k⟩
  · rw [if_neg e] at h ⊢
    obtain ⟨b, h1, h2, h3⟩ := h
    exact ⟨b, h1, cell_ext k h2, Nat.lt_of_lt_of_le h3 (Below.size k)⟩
theorem ext_cl (W : World) : Cl Ext fun X => Ext W X := fun _ _ h k => Ext.trans h k
set_option maxRecDepth 20000 in
set_option maxHeartbeats 2000000 in
theorem rwrite (h : RdM G x s stp cl R W) (n : Nat) (hn : n < s.N) (o : Option Addr) (c : Nat) (f : Nat → BitVec 8) (hb : BV (.slice o 512 c) 512 f W) (ho : offR stp cl = false) (hp : stp = true → 0 < cl) (hk : s.kc n ≤ 4398046511103) : Calls Try.prog 30 #[.pointer (some ⟨x, 0, none⟩), .int .i64 (n : Int), .slice o 512 c] W fun e w' => e = .returned (.int .i64 0) ∧ ∃ G' R', R'.bb = R.bb ∧ RdM G' x (wrS s n f) stp (clD stp cl) R' w' ∧ Keeps (fun i => i = x ∨ i = R.bb) W w' ∧ ∀ i, G' i → G i ∨ W.heap.size ≤ i := by
  have km := rmay h (n : Int) o 512 c
  rw [cbE_ok hn] at km
  replace km := hideit km
  have ko := roff h
  rw [ho] at ko
  replace ko := hideit ko
  have hn4 := h.n4
  have i0 : (0 : Int) ≤ (n : Int) := by omega
  have i1 : (n : Int) < (s.N : Int) := by omega
  have e0 : ∀ X, Ext W X → X.cell? ⟨x, 0, none⟩ = some (.slice (some ⟨R.bb, 0, none⟩) s.N R.cp) := fun X hX => (h.ext hX).c0
  have el : ∀ X, Ext W X → X.cell? ⟨R.bb, n * 2 + 1, none⟩ = some (R.lv n) := fun X hX => by
    have e := (h.ext hX).row.1 (n * 2 + 1) (by omega)
    unfold blV at e
    rw [if_neg (by omega), show (n * 2 + 1) / 2 = n by omega] at e
    exact e
  have ez : ∀ X, Ext W X → X.frozen? ⟨R.bb, n * 2 + 1, none⟩ = false := fun X hX => (h.ext hX).row.2.1 (n * 2 + 1) (by omega)
  have hL : ∀ X, Ext W X → OwnB 0 9 (R.lv n) (s.kc n) (fun j => .string (tx (s.uc n j))) X := fun X hX => (h.ext hX).list n hn
  have ca : ∀ X, Ext W X → (convert 31 9 (.slice o 512 c)).run Try.prog X = .ok (.string (tx f)) X := fun X hX => convV _ _ _ X (hb.ext hX)
  obtain ⟨a, ha⟩ : ∃ a, a = tx f := ⟨_, rfl⟩
  rw [← ha] at ca
  replace ha := hideit ha
  have D : Ext W W.drew := (Ext.refl W).draw
  replace h := hideit h
  replace hp := hideit hp
  clear hb ho
  generalize hlv : R.lv n = lv at el hL
  clear hlv
  go_enter Try.func30, Try.ntmps30
  go_upto_region 6 with (first | (go_at_call 45; refine km.out.mono ?_; rintro e w9 ⟨rfl, hw9⟩; rw [hw9]; clear hw9) | (go_at_call 37; refine ko.out.mono ?_; rintro e w9 ⟨rfl, hw9⟩; rw [hw9]; clear hw9))
  clear km ko
  refine wp_region_ladm Ext (fun X => Ext W X) (mkR W.heap.size a) [21] [18] [(0, 0), (0, 1), (0, 2), (0, 3), (0, 4), (0, 6), (0, 7), (0, 8), (0, 9), (0, 10), (0, 11), (0, 12), (0, 13), (0, 15), (0, 16), (2, 5), (1, 14), (2, 17), (1, 18), (3, 19), (3, 20), (1, 21)] (by kernel_rfl) (by kernel_rfl) (by decide +kernel) (by decide +kernel) (by decide +kernel) (by decide +kernel) (mkR_cl _ _) (ext_cl W) D ?_
  refine wpQ_f _ (.pointer (some ⟨x, 0, none⟩)) rfl rfl (fun X hX => by simp [go_sem]) ?_
  simp only [List.getElem_toArray, List.getElem_cons_zero, Act.put, List.setIfInBounds_toArray, List.set_cons_zero, List.set_cons_succ]
  refine wpQ_f _ (.pointer (some ⟨x, 0, none⟩)) rfl rfl (fun X hX => by simp [go_sem]) ?_
  simp only [List.getElem_toArray, List.getElem_cons_zero, List.getElem_cons_succ, Act.put, List.setIfInBounds_toArray, List.set_cons_zero, List.set_cons_succ]
  refine wpQ_f _ (.pointer (some ⟨x, 0, none⟩)) rfl rfl (fun X hX => by simp [go_sem]) ?_
  simp only [List.getElem_toArray, List.getElem_cons_zero, List.getElem_cons_succ, Act.put, List.setIfInBounds_toArray, List.set_cons_zero, List.set_cons_succ]
  refine wpQ_f _ (.slice (some ⟨R.bb, 0, none⟩) s.N R.cp) rfl rfl (fun X hX => by have e := e0 X hX; simp [go_sem, e]) ?_
  simp only [List.getElem_toArray, List.getElem_cons_zero, List.getElem_cons_succ, Act.put, List.setIfInBounds_toArray, List.set_cons_zero, List.set_cons_succ]
  refine wpQ_f _ (.int .i64 (n : Int)) rfl rfl (fun X hX => by simp [go_sem]) ?_
  simp only [List.getElem_toArray, List.getElem_cons_zero, List.getElem_cons_succ, Act.put, List.setIfInBounds_toArray, List.set_cons_zero, List.set_cons_succ]
  refine wpQ_f _ (.pointer (some ⟨x, 0, none⟩)) rfl rfl (fun X hX => by simp [go_sem]) ?_
  simp only [List.getElem_toArray, List.getElem_cons_zero, List.getElem_cons_succ, Act.put, List.setIfInBounds_toArray, List.set_cons_zero, List.set_cons_succ]
  refine wpQ_f _ (.pointer (some ⟨x, 0, none⟩)) rfl rfl (fun X hX => by simp [go_sem]) ?_
  simp only [List.getElem_toArray, List.getElem_cons_zero, List.getElem_cons_succ, Act.put, List.setIfInBounds_toArray, List.set_cons_zero, List.set_cons_succ]
  refine wpQ_f _ (.pointer (some ⟨x, 0, none⟩)) rfl rfl (fun X hX => by simp [go_sem]) ?_
  simp only [List.getElem_toArray, List.getElem_cons_zero, List.getElem_cons_succ, Act.put, List.setIfInBounds_toArray, List.set_cons_zero, List.set_cons_succ]
  refine wpQ_f _ (.slice (some ⟨R.bb, 0, none⟩) s.N R.cp) rfl rfl (fun X hX => by have e := e0 X hX; simp [go_sem, e]) ?_
  simp only [List.getElem_toArray, List.getElem_cons_zero, List.getElem_cons_succ, Act.put, List.setIfInBounds_toArray, List.set_cons_zero, List.set_cons_succ]
  refine wpQ_f _ (.int .i64 (n : Int)) rfl rfl (fun X hX => by simp [go_sem]) ?_
  simp only [List.getElem_toArray, List.getElem_cons_zero, List.getElem_cons_succ, Act.put, List.setIfInBounds_toArray, List.set_cons_zero, List.set_cons_succ]
  refine wpQ_f _ (.pointer (some ⟨R.bb, n * 2, none⟩)) rfl rfl (fun X hX => by simp [go_sem, i1]) ?_
  simp only [List.getElem_toArray, List.getElem_cons_zero, List.getElem_cons_succ, Act.put, List.setIfInBounds_toArray, List.set_cons_zero, List.set_cons_succ]
  refine wpQ_f _ (.pointer (some ⟨R.bb, n * 2 + 1, none⟩)) rfl rfl (fun X hX => by simp [go_sem]) ?_
  simp only [List.getElem_toArray, List.getElem_cons_zero, List.getElem_cons_succ, Act.put, List.setIfInBounds_toArray, List.set_cons_zero, List.set_cons_succ]
  refine wpQ_f _ (lv) rfl rfl (fun X hX => by have e := el X hX; simp [go_sem, e]) ?_
  simp only [List.getElem_toArray, List.getElem_cons_zero, List.getElem_cons_succ, Act.put, List.setIfInBounds_toArray, List.set_cons_zero, List.set_cons_succ]
  refine wpQ_f _ (.slice o 512 c) rfl rfl (fun X hX => by simp [go_sem]) ?_
  simp only [List.getElem_toArray, List.getElem_cons_zero, List.getElem_cons_succ, Act.put, List.setIfInBounds_toArray, List.set_cons_zero, List.set_cons_succ]
  refine wpQ_f _ (.string a) rfl rfl (fun X hX => by have e := ca X hX; simp [go_sem, e]) ?_
  simp only [List.getElem_toArray, List.getElem_cons_zero, List.getElem_cons_succ, Act.put, List.setIfInBounds_toArray, List.set_cons_zero, List.set_cons_succ]
  refine wpQ_m _ rfl rfl (fun X hX => ⟨.slice (some ⟨X.heap.size, 0, none⟩) 0 0, X.alloc (.cells #[] 9), by simp [go_sem], ⟨X.heap.size, rfl, by simp, own_empty X _ 9 _ (Below.size hX)⟩, (Below.refl _ _).alloc (Nat.le_refl _) _⟩) ?_
  rintro v5 ⟨_, _, b5, rfl, _⟩
  simp only [List.getElem_toArray, List.getElem_cons_zero, List.getElem_cons_succ, Act.put, List.setIfInBounds_toArray, List.set_cons_zero, List.set_cons_succ]
  refine wpQ_to _ rfl rfl fun X hX => ?_
  obtain ⟨hX1, b5', e5, hb5, O5⟩ := hX
  injection e5 with e5
  injection e5 with e5
  injection e5 with e5
  subst e5
  obtain ⟨v14, X14, r14, O14, E14⟩ := run_full42 (b := b5) (w := X) (hL X hX1) (fun _ _ => rfl) (by omega) (fun _ => undef) W.heap.size O5 (Below.size hX1) 42
  refine ⟨v14, X14, exec_app (.tmp 22) (.tmp 30) rfl rfl rfl r14, fun Y => (Ext W Y ∧ mkR W.heap.size a 5 (.slice (some ⟨b5, 0, none⟩) 0 0) Y) ∧ OwnB W.heap.size 9 v14 (s.kc n) (fun j => .string (tx (s.uc n j))) Y, ⟨⟨Ext.trans hX1 E14, mkR_cl _ _ 5 _ _ _ ⟨b5, rfl, hb5, O5⟩ E14⟩, O14⟩, .inr (.inr ⟨fun Y hY => hY.1, E14, fun A B hA k => ⟨⟨Ext.trans hA.1.1 k, mkR_cl _ _ 5 _ _ _ hA.1.2 k⟩, hA.2.ext k⟩⟩), ?_⟩
  clear r14 O14 E14 hb5 O5 hX1 X X14
  simp only [List.getElem_toArray, List.getElem_cons_zero, List.getElem_cons_succ, Act.put, List.setIfInBounds_toArray, List.set_cons_zero, List.set_cons_succ]
  refine wpQ_m _ rfl rfl (fun X hX => ⟨.slice (some ⟨X.heap.size, 0, none⟩) 1 1, X.alloc (.cells #[.string a] 9), by simp [go_sem], ⟨X.heap.size, rfl, (RowAt.newOf X 1 (fun _ => .string a) 9 #[.string a] (fun j hj => by
    obtain rfl : j = 0 := by omega
    rfl)).1 0 (by decide), by simp⟩, (Below.refl _ _).alloc (Nat.le_refl _) _⟩) ?_
  rintro v17 ⟨_, _, b17, rfl, _⟩
  simp only [List.getElem_toArray, List.getElem_cons_zero, List.getElem_cons_succ, Act.put, List.setIfInBounds_toArray, List.set_cons_zero, List.set_cons_succ]
  refine wpQ_to _ rfl rfl fun X hX => ?_
  obtain ⟨⟨⟨hX1, _⟩, O14⟩, b', e17, c17, _⟩ := hX
  injection e17 with e17
  injection e17 with e17
  injection e17 with e17
  subst e17
  obtain ⟨v18, X18, r18, O18, g18, _⟩ := run_grow42 (ty := 42) O14 b17 (.string a) c17 rfl (by omega) (Below.size hX1)
  obtain ⟨b18, c18, rfl, _⟩ := O18.lies (by omega)
  have E18 : Ext W X18 := Below.trans hX1 (below_grown (Below.size hX1) g18 fun k hk => (O14.lt k hk).1)
  refine ⟨.slice (some ⟨b18, 0, none⟩) (s.kc n + 1) c18, X18, exec_app (.tmp 31) (.tmp 34) rfl rfl rfl r18, fun Y => Y = X18, rfl, .inr (.inl ⟨by simp, fun Y hY => by rw [hY]; exact E18⟩), ?_⟩
  simp only [List.getElem_toArray, List.getElem_cons_zero, List.getElem_cons_succ, Act.put, List.setIfInBounds_toArray, List.set_cons_zero, List.set_cons_succ]
  refine wpQ_g _ (.pointer (some ⟨R.bb, n * 2, none⟩)) rfl rfl (fun X hX => by simp [go_sem, i1]) ?_
  simp only [List.getElem_toArray, List.getElem_cons_zero, List.getElem_cons_succ, Act.put, List.setIfInBounds_toArray, List.set_cons_zero, List.set_cons_succ]
  refine wpQ_g _ (.pointer (some ⟨R.bb, n * 2 + 1, none⟩)) rfl rfl (fun X hX => by simp [go_sem]) ?_
  simp only [List.getElem_toArray, List.getElem_cons_zero, List.getElem_cons_succ, Act.put, List.setIfInBounds_toArray, List.set_cons_zero, List.set_cons_succ]
  obtain ⟨G', R', q1, q2, q3, q4⟩ := rw_fin h E18 n O18 f (fun j hj => by
    by_cases e : j = s.kc n
    · rw [if_pos e, e, upN_same, ha.out]
    · rw [if_neg e, upN_other _ e])
  have cc := el _ E18
  have cz := ez _ E18
  refine wpQ_st _ rfl rfl fun X hX => ?_
  subst hX
  refine ⟨X.setCell ⟨R.bb, n * 2 + 1, none⟩ (.slice (some ⟨b18, 0, none⟩) (s.kc n + 1) c18), by simp [go_sem, cc, cz], fun Y => Y = X.setCell ⟨R.bb, n * 2 + 1, none⟩ (.slice (some ⟨b18, 0, none⟩) (s.kc n + 1) c18), rfl, .inl (by simp), ?_⟩
  refine wpQ_nil fun Y hY => ?_
  rw [← hY] at q2 q3
  clear hY cc cz O18 r18 g18 O14 c17 hX1 E18 el ez hL ca e0
  simp only [Act.put]
  have kd := hideit (rdid q2 hp.out)
  replace q2 := hideit q2
  replace q3 := hideit q3
  replace q4 := hideit q4
  replace q1 := hideit q1
  go_wp2_with (go_at_call 46; refine kd.out.mono ?_; rintro e w9 ⟨rfl, h9, k9⟩)
  go_ret
  refine ⟨rfl, G', R', q1.out, h9, ?_, q4.out⟩
  rw [q1.out] at k9
  exact q3.out.trans (F' := fun i => i = x ∨ i = R.bb) k9 fun i hi => .inl hi
end
end Go.Proofs.Ytfaeieaelfjlpaa
namespace Go.Proofs.Ytfaeieaelfjlpaa
open Go.ChangeShapes Go.WideShapes Go.ChangeAt Go.RowKit
theorem weightsAll_mem {H : Type} {P : Program} {e : TypeId} : ∀ {l : List (DataW H)} {d : DataW H}, d ∈ l → ∀ n ∈ d.weights P e, n ∈ DataW.weightsAll P e l
  | d0 :: r, d, h, n, hn => by
    simp only [DataW.weightsAll, List.mem_append]
    rcases List.mem_cons.1 h with rfl | h
    · exact .inl hn
    · exact .inr (weightsAll_mem h n hn)
theorem trod_stW {H : Type} {enc : TypeId × Value → H} {P : Program} {w : World} {base : Nat} {spare : Nat → Bool} {held : Bool} {t : TypeId} {fs : List Field} {fuel : Nat} {cs : List Value} {x : DataW H × List MemPlace} (ht : P.underlying t = some (.struct fs.toArray)) (h : DataW.trod enc P w base spare held fuel t cs = some x) :
    ∃ n, cs.length = P.cellsOf t ∧ ∀ (i : Nat) (f : Field), fs[i]? = some f → ∃ y, DataW.trod enc P w base spare held n f.type ((cs.drop f.offset).take (P.cellsOf f.type)) = some y ∧ ∀ m ∈ y.1.weights P f.type, m ∈ x.1.weights P t := by
  obtain ⟨xs, n, _, hx, hl, hlen, hf⟩ := DataW.trod_struct ht h
  refine ⟨n, hl, fun i f hi => ?_⟩
  have hi2 : fs.toArray[i]? = some f := by simpa using hi
  have hlt : i < xs.length := by
    have := (List.getElem?_eq_some_iff.1 hi).1
    simp at hlen
    omega
  refine ⟨xs[i], by rw [hf i f hi2, List.getElem?_eq_getElem hlt], fun m hm => ?_⟩
  rw [hx]
  simp only [DataW.weights, ht]
  exact DataW.weights_mem_each (j := i) (by simp [hi]) (by simp [hlt]) m hm
set_option maxRecDepth 100000 in
theorem open_pieceW {H : Type} {enc : TypeId × Value → H} {W : World} {base : Nat} {spare : Nat → Bool} {held : Bool} {n : Nat} {cs : List Value} {x : DataW H × List MemPlace} (h : DataW.trod enc Try.prog W base spare held n 31 cs = some x) (hw : ∀ m ∈ x.1.weights Try.prog 31, m ≤ reachBytes) :
    ∃ u l b, cs = [u] ∧ PV u l b W ∧ l ≤ reachBytes := by
  rcases open_ints Try.underlying31 Try.underlying5 (by kernel_rfl) h with ⟨hcs, hx⟩ | ⟨a, len, cap, zs, hcs, _, hl, hm, hz, hd, hcell, hwz⟩
  · exact ⟨.slice none 0 0, 0, fun _ => 0#8, hcs, .inl ⟨rfl, rfl⟩, Nat.zero_le _⟩
  · have hlen : len ≤ zs.length := by rw [hz]; split <;> omega
    have hall : ∀ i, i < len → ∃ c : BitVec 8, zs.getD i 0 = (c.toNat : Int) := fun i hi => by
      refine of_wf8 (hwz _ ?_)
      rw [List.getD_eq_getElem?_getD, List.getElem?_eq_getElem (by omega), Option.getD_some]
      exact List.getElem_mem _
    refine ⟨.slice (some a) len cap, len, fun i => if h : i < len then (hall i h).choose else 0#8, hcs, .inr ⟨a, cap, rfl, hl, fun j hj => ?_⟩, ?_⟩
    · rw [hcell j (by omega)]
      simp only [yv, dif_pos hj]
      rw [← (hall j hj).choose_spec]
    · have b5 : Try.prog.bytesOf 5 = 1 := by kernel_rfl
      have h1 := hw (((lits .u8 (zs.take len)).length (α := DataW H) + (lits .u8 (zs.drop len)).length (α := DataW H)) * Try.prog.bytesOf 5) (by rw [hd]; simp [DataW.weights, Try.underlying31])
      rw [b5] at h1
      simp [lits] at h1
      omega
set_option maxRecDepth 100000 in
theorem op_cellsW {H : Type} {enc : TypeId × Value → H} {W : World} {base : Nat} {spare : Nat → Bool} {held : Bool} {n : Nat} {cs : List Value} {x : DataW H × List MemPlace} (h : DataW.trod enc Try.prog W base spare held n 34 cs = some x) (hw : ∀ m ∈ x.1.weights Try.prog 34, m ≤ reachBytes) :
    ∃ (k m : Int) (u : Value) (bad : Bool) (q : Value), cs = [.int .i64 k, .int .i64 m, u, .bool bad, q] ∧ okI m ∧ (∃ l b, PV u l b W ∧ l ≤ reachBytes) ∧ ∃ kk kb kw, KP q kk kb kw W ∧ kk * 16 ≤ reachBytes ∧ ∀ i, i < kk → okI (kb i) ∧ okI (kw i) := by
  have c3 : Try.prog.cellsOf 3 = 1 := by kernel_rfl
  have c4 : Try.prog.cellsOf 4 = 1 := by kernel_rfl
  have c31 : Try.prog.cellsOf 31 = 1 := by kernel_rfl
  have c32 : Try.prog.cellsOf 32 = 1 := by kernel_rfl
  have c34 : Try.prog.cellsOf 34 = 5 := by kernel_rfl
  obtain ⟨mm, hl, hf⟩ := trod_stW (fs := [_, _, _, _, _]) Try.underlying34 h
  obtain ⟨y0, h0, _⟩ := hf 0 _ rfl
  obtain ⟨y1, h1, _⟩ := hf 1 _ rfl
  obtain ⟨y2, h2, w2⟩ := hf 2 _ rfl
  obtain ⟨y3, h3, _⟩ := hf 3 _ rfl
  obtain ⟨y4, h4, w4⟩ := hf 4 _ rfl
  rw [c34] at hl
  match cs, hl with
  | [v0, v1, v2, v3, v4], _ =>
    simp only [c3, c4, c31, c32, List.drop_succ_cons, List.drop_zero, List.take_succ_cons, List.take_zero] at h0 h1 h2 h3 h4
    obtain ⟨k, e0, _, _⟩ := DataW.trod_int Try.underlying3 h0
    obtain ⟨m, e1, _, w1⟩ := DataW.trod_int Try.underlying3 h1
    obtain ⟨u, l, b, e2, hp, hl⟩ := open_pieceW h2 fun n hn => hw n (w2 n hn)
    obtain ⟨bd, e3, _⟩ := DataW.trod_bool Try.underlying4 h3
    obtain ⟨q, kk, kb, kw, e4, hq, hkk, hok, hx⟩ := open_keep h4
    simp only [List.cons.injEq, and_true] at e0 e1 e2 e3 e4
    subst e0 e1 e2 e3 e4
    refine ⟨k, m, _, bd, _, rfl, w1, ⟨l, b, hp, hl⟩, kk, kb, kw, hq, ?_, hok⟩
    rcases hx with ⟨_, e⟩ | ⟨e, s, hx, he⟩
    · omega
    · have h1 := hw _ (w4 ((e.length + s.length) * Try.prog.bytesOf 65) (by rw [hx]; simp [DataW.weights, Try.underlying32]))
      rw [bytes65] at h1
      omega
/-- ops that came in -/
def OpB (u q : Value) (W : World) : Prop := (∃ l b, PV u l b W ∧ l ≤ 140737488355328) ∧ ∃ kk kb kw, KP q kk kb kw W ∧ kk * 16 ≤ 140737488355328 ∧ ∀ i, i < kk → okI (kb i) ∧ okI (kw i)
theorem OpB.ext {u q : Value} {W X : World} (h : OpB u q W) (k : Ext W X) : OpB u q X := by
  obtain ⟨⟨l, b, h1, h2⟩, kk, kb, kw, h3, h4⟩ := h
  exact ⟨⟨l, b, h1.ext k, h2⟩, kk, kb, kw, h3.ext k, h4⟩
def OpsB (v : Value) (W : World) : Prop := ∃ (o : Option Addr) (n cap : Nat) (ks ms : Nat → Int), v = .slice o n cap ∧ n ≤ 4398046511000 ∧ ∀ i, i < n → ∃ (ab ao : Nat) (u : Value) (bad : Bool) (q : Value), o = some ⟨ab, ao, none⟩ ∧ (∀ j, j < 5 → W.cell? ⟨ab, ao + i * 5 + j, none⟩ = some (opc (ks i) (ms i) u bad q j)) ∧ okI (ms i) ∧ OpB u q W
set_option maxRecDepth 100000 in
theorem opsargW {H : Type} {enc : TypeId × Value → H} {W : World} {r : Reach} {b0 base : Nat} {spare : Nat → Bool} {held : Bool} {v : Value} {d : DataW H} {p : List MemPlace} {ts : List TypeId} {ds : List (DataW H)}
    (hv : Value.okWide Try.prog W r b0 22 v) (h : DataW.Trod enc Try.prog W base spare held 22 v d p) (hsz : (DataW.weightsEach Try.prog ts ds).all (· ≤ reachBytes) = true) (jj : Nat) (ht : ts[jj]? = some 22) (hd : ds[jj]? = some d) : OpsB v W := by
  obtain ⟨a, len, cap, rfl⟩ := okWide_slice Try.underlying22 hv
  obtain ⟨fuel, hf⟩ := h
  have hC : Try.prog.cellsOf 34 = 5 := by kernel_rfl
  have hB : Try.prog.bytesOf 34 = 72 := by kernel_rfl
  rcases Go.Deep.open_slice Try.underlying22 hf with ⟨hcs, _⟩ | ⟨x, l, c, m, n, D, Pl, hcs, _, hl, hm, hmm, hdx, hx⟩
  · simp [Value.cells] at hcs
    obtain ⟨rfl, rfl, rfl⟩ := hcs
    exact ⟨none, 0, 0, fun _ => 0, fun _ => 0, rfl, Nat.zero_le _, fun i hi => by omega⟩
  · simp [Value.cells] at hcs
    obtain ⟨rfl, rfl, rfl⟩ := hcs
    have hdx' : d = .slice ((List.range len).map D) ((List.range (m - len)).map fun j => D (len + j)) := congrArg Prod.fst hdx
    have hall : ∀ n ∈ d.weights Try.prog 22, n ≤ reachBytes := fun n hn => by
      have := List.all_eq_true.1 hsz _ (DataW.weights_mem_each ht hd n hn)
      simpa using this
    have hnn : len ≤ 4398046511000 := by
      rw [hdx'] at hd
      have h1 := sized_slice hsz ht hd Try.underlying22
      rw [hB] at h1
      unfold reachBytes at h1
      simp at h1
      omega
    have hsp : x.spot = none := by
      simp only [Value.okWide, Try.underlying22, Cell.okWide, Cell.ok] at hv
      exact hv.2.2.2.1
    have hadd : ∀ i, x.add i = ⟨x.block, x.off + i, none⟩ := fun i => by
      obtain ⟨xb, xo, xs⟩ := x
      cases hsp
      unfold Addr.add
      by_cases hi : i = 0
      · subst hi; simp
      · rw [if_neg hi]
    have hxe : x = ⟨x.block, x.off, none⟩ := by
      obtain ⟨xb, xo, xs⟩ := x
      cases hsp
      rfl
    have hlm : len ≤ m := by rw [hmm]; split <;> omega
    have each : ∀ i, i < len → ∃ y : Int × Int, ∃ (u : Value) (bad : Bool) (q : Value), (∀ j, j < 5 → W.cell? ⟨x.block, x.off + i * 5 + j, none⟩ = some (opc y.1 y.2 u bad q j)) ∧ okI y.2 ∧ OpB u q W := by
      intro i hi
      obtain ⟨cs', h1, h2⟩ := hx i (by omega)
      rw [hC] at h1
      obtain ⟨_, hlen, hcell⟩ := World.cells?_some h1
      obtain ⟨k, m', u, bad, q, rfl, hmm', ⟨l', b', hp, hl'⟩, kk, kb, kw, hq, hkk, hok⟩ := op_cellsW h2 (fun n hn => hall n (by rw [hdx']; simp only [DataW.weights, Try.underlying22, List.mem_cons, List.mem_append]; exact .inr (.inl (weightsAll_mem (List.mem_map.2 ⟨i, by simpa using hi, rfl⟩) n hn))))
      refine ⟨(k, m'), u, bad, q, fun j hj => ?_, hmm', ⟨l', b', hp, by unfold reachBytes at hl'; omega⟩, kk, kb, kw, hq, by unfold reachBytes at hkk; omega, hok⟩
      have e := hcell j (by omega)
      rw [add_add, hadd, ← Nat.add_assoc] at e
      rw [e]
      rcases (by omega : j = 0 ∨ j = 1 ∨ j = 2 ∨ j = 3 ∨ j = 4) with rfl | rfl | rfl | rfl | rfl <;> rfl
    obtain ⟨y, hy⟩ := Go.Deep.choose_lt each
    refine ⟨some x, len, cap, fun i => (y i).1, fun i => (y i).2, rfl, hnn, fun i hi => ?_⟩
    obtain ⟨u, bad, q, a1, a2, a3⟩ := hy i hi
    exact ⟨x.block, x.off, u, bad, q, by rw [← hxe], a1, a2, a3⟩
end Go.Proofs.Ytfaeieaelfjlpaa
