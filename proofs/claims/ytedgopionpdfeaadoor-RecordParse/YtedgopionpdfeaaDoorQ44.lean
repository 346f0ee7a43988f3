/-
  The walk of RecordParse. How redos and blocks that came in read.
-/
import Derived.Test.YtedgopionpdfeaaDoorQ42
import Derived.Test.YtedgopionpdfeaaDoorQ43
import Derived.Laws.MakeOwn
import Derived.Test.YtedgopionpdfeaaDoorQ37
import Derived.Test.YtedgopionpdfeaaDoorQ11
import Derived.Deep.Slices
namespace Go.Proofs.YtedgopionpdfeaaDoor
open Go.RowKit Go.BigFrame
set_option linter.unusedVariables false
theorem exec_made {P : Program} {o : Oper} {a : Act} {w : World} (t e : TypeId) (x y : Operand) (ho : o.op = .makeSlice t x y) (z : Value) (size bytes n : Nat) (hu : P.underlying t = some (.slice e)) (hi : (P.info? e).map (fun i => (i.zero, i.size, i.bytes)) = some (some z, size, bytes))
    (hx : a.eval x = .int .i64 (n : Int)) (hy : a.eval y = .int .i64 (n : Int)) (hb : bytes * n ≤ 140737488355328) (hn : n ≤ 140737488355328) : (execOp a.eval o).run P w = .ok (.value (.slice (some ⟨w.heap.size, 0, none⟩) n n)) (w.alloc (.cells (madeCells z.cells (n * size)) e)) := by
  obtain ⟨ti, hi1, hi2, hi3, hi4⟩ := info_parts hi
  have h9 : ((bytes * n : Nat) : Int) ≤ 281474976710656 := by omega
  rw [Int.natCast_mul] at h9
  have hr := run_make (P := P) w t e ti z hu hi1 hi2 .i64 .i64 n n (by omega) (Int.le_refl _) (by rw [hi4]; exact h9) (by omega)
  rw [hi3] at hr
  simp only [Int.toNat_natCast] at hr
  unfold execOp
  simp only [ho, hx, hy, hr, Sem.run_bind, Sem.run_pure, Result.andThen_ok]
theorem made_nil (w : World) (n : Nat) : RowAt w.heap.size n (fun _ => .slice none 0 0) (w.alloc (.cells (madeCells (Value.slice none 0 0).cells (n * 1)) 34)) := by
  refine RowAt.newOf w n _ 34 _ fun j hj => ?_
  unfold madeCells
  rw [Array.getElem?_map, Array.getElem?_range, if_pos (by omega)]
  simp [Value.cells, Nat.mod_one]
theorem info34z : (Tryd.prog.info? 34).map (fun i => (i.zero, i.size, i.bytes)) = some (some (.slice none 0 0), 1, 24) := by kernel_rfl
theorem wpList_gbP {ops : Array Oper} {rest : List Oper} {o : Oper} {a : Act} {Q : Exit → Act → World → Prop} {w0 X : World} {v : Value} {n : Nat} {f : Nat → BitVec 8} (hgd : o.guard = none) (s x : Operand)
    (ho : o.op = .call { callee := .builtin .append, args := #[s, x], argTypes := #[34, 34] }) (hs : a.eval s = v) (hG : GB w0 v n f X) (xv : Value) (l : Nat) (b : Nat → BitVec 8) (hx : a.eval x = xv) (hb : PV xv l b X) (hn : n + l ≤ 140737488355328)
    (h : ∀ v' X', GB w0 v' (n + l) (catF f n b) X' → wpList Tryd.prog ops Q rest (a.put o.dst v') X') : wpList Tryd.prog ops Q (o :: rest) a X := by
  rcases hb with ⟨rfl, rfl⟩ | ⟨ad, cap, rfl, h2, h3⟩
  · exact wpList_grow_none elem22 hgd s x ho hs hG.1 hx (h v X (hG.congr rfl fun j hj => by unfold catF; rw [if_pos hj]))
  · obtain ⟨i, z, e1, e2, e3, e4, e5⟩ := elem22.info
    refine wpList_append_own X hgd s x 34 ho w0.heap.size 5 i z 1 1 elem22.slice e1 e2 e3 e4 e5 (by decide) v n (row n (yv f)) hs hG.1 ad l cap (row l (yv b)) hx (by rw [row_length, Nat.mul_one]) (fun j u hj => ?_) (fun u hu => ?_) (by unfold maxLen; omega) (by omega) (Below.size hG.2) fun v' X' h4 h5 _ => h v' X' ⟨?_, Below.trans hG.2 (below_grown (Below.size hG.2) h5 fun k hk => (hG.1.lt k hk).1)⟩
    · obtain ⟨hj', rfl⟩ := row_some hj
      exact h3 j hj'
    · obtain ⟨j, _, rfl⟩ := List.mem_map.1 hu
      rfl
    · unfold OwnB
      rw [row_append n l (yv f) (yv b) (yv (catF f n b)) (fun j hj => by simp only [yv]; unfold catF; rw [if_pos hj]) (fun j hj => by simp only [yv]; unfold catF; rw [if_neg (by omega), Nat.add_sub_cancel_left])] at h4
      exact h4
theorem RLs.congr {v : Value} {n : Nat} {bs : Nat → Int} {us : Nat → Value} {ls ls' : Nat → Nat} {fs fs' : Nat → Nat → BitVec 8} {w : World} (h : RLs v n bs us ls fs w) (e : ∀ i, i < n → ls i = ls' i ∧ fs i = fs' i) : RLs v n bs us ls' fs' w := ⟨h.1, fun i hi => by rw [← (e i hi).1, ← (e i hi).2]; exact h.2 i hi⟩
theorem rls_nil (w : World) : RLs (.slice none 0 0) 0 (fun _ => 0) (fun _ => undef) (fun _ => 0) (fun _ _ => 0#8) w := ⟨.inl ⟨rfl, rfl⟩, fun i hi => absurd hi (Nat.not_lt_zero _)⟩
/-- both Parse answer one thing -/
theorem parse_both (x : BitVec 64) (m : Nat) (ls : Nat → Nat) (fs : Nat → Nat → BitVec 8) (hls : ∀ i, i < m → ls i ≤ 140737488355328) (hm : m ≤ 5900000000000) : ∃ (N : Nat) (bs : Nat → Int) (L : Nat → Nat) (xs : Nat → Nat → BitVec 8) (C E : Int), N ≤ 64 ∧
    (∀ vb us w, TabC w → PL vb m us ls fs w → (0 < m → BV (us 0) (ls 0) (fs 0) w) → Calls Tryd.prog 12 #[.int .u64 (x.toNat : Int), vb] w fun e w' => ∃ v us', e = .returned (.tuple #[v, .int .i64 C, .int .i64 E]) ∧ RLs v N bs us' L xs w' ∧ Ext w w') ∧
    (∀ vb us w, PL vb m us ls fs w → Calls Tryd.prog 14 #[.int .u64 (x.toNat : Int), vb] w fun e w' => ∃ v us', e = .returned (.tuple #[v, .int .i64 C, .int .i64 E]) ∧ RLs v N bs us' L xs w' ∧ Ext w w') := by
  by_cases hh : hasP x m ls fs ∧ isTx x ls fs
  · obtain ⟨⟨h0, hp, hx, hc⟩, ht⟩ := id hh
    have hok := (tx_iff hp hx).1 ht
    have hn : 1 ≤ cP (fs 0) ∧ cP (fs 0) ≤ 64 := ⟨hp.2.2.2.2.2.1, hp.2.2.2.2.2.2.1⟩
    refine ⟨cP (fs 0), bP (fs 0), fun _ => 512, fun i => xF (tP (fs 0)) i (fs (i + 1)), ((cP (fs 0) + 2 : Nat) : Int), 0, hn.2, fun vb us w hT hP hB => (parse_yesB x vb m us ls fs w hT hP hB hls hm hh.1 ht).mono fun e w' ⟨v, us', he, hD, hX⟩ => ⟨v, us', he, ?_, hX⟩, fun vb us w hP => (rp_loop x vb m us ls fs w hP hls hm h0 hp hx hc).mono fun e w' ⟨hX, h⟩ => ?_⟩
    · exact (hD.rls (by omega) (fun i hi => hls (i + 1) (by omega))).congr fun i hi => ⟨(hok.1 i hi).1, un_xF hok.1 i hi⟩
    · rcases h with ⟨_, v, us', he, hD⟩ | ⟨h, _⟩
      · exact ⟨v, us', he, hD.rls (by omega) (fun i hi => by decide), hX⟩
      · exact absurd hok h
  · refine ⟨0, fun _ => 0, fun _ => 0, fun _ _ => 0#8, 0, 110, by decide, fun vb us w hT hP hB => (parse_notB x vb m us ls fs w hT hP hB hls hm hh).mono fun e w' ⟨he, hX⟩ => ⟨_, _, he, rls_nil w', hX⟩, fun vb us w hP => ?_⟩
    have key : Calls Tryd.prog 14 #[.int .u64 (x.toNat : Int), vb] w fun e w' => e = .returned (.tuple #[.slice none 0 0, .int .i64 0, .int .i64 110]) ∧ Ext w w' := by
      by_cases h0 : m = 0
      · exact rp_zero x vb m us ls fs w hP hls hm h0
      · by_cases hp : isPl (ls 0) (fs 0)
        · by_cases hx : nP (fs 0) = x
          · by_cases hc : m < cP (fs 0) + 2
            · exact rp_few x vb m us ls fs w hP hls hm (by omega) hp hx hc
            · refine (rp_loop x vb m us ls fs w hP hls hm (by omega) hp hx (by omega)).mono fun e w' ⟨hX, h⟩ => ?_
              rcases h with ⟨h, _⟩ | ⟨_, he⟩
              · exact absurd ⟨⟨by omega, hp, hx, by omega⟩, (tx_iff hp hx).2 h⟩ hh
              · exact ⟨he, hX⟩
          · exact rp_num x vb m us ls fs w hP hls hm (by omega) hp hx
        · exact rp_plan x vb m us ls fs w hP hls hm (by omega) hp
    exact key.mono fun e w' ⟨he, hX⟩ => ⟨_, _, he, rls_nil w', hX⟩
set_option maxRecDepth 20000 in
set_option maxHeartbeats 4000000 in
theorem rparse_any (x : BitVec 64) (vb : Value) (m : Nat) (us : Nat → Value) (ls : Nat → Nat) (fs : Nat → Nat → BitVec 8) (w : World) (hP : PL vb m us ls fs w) (hls : ∀ i, i < m → ls i ≤ 140737488351232) (hm : m ≤ 5864062014634) (hT : TabC w) : Calls Tryd.prog 4 #[.int .u64 (x.toNat : Int), vb] w fun e w' => e = .returned (.bool true) ∧ Ext w w' := by
  obtain ⟨N, bs, L, xs, C, E, hN, ka, kb⟩ := parse_both x m ls fs (fun i hi => Nat.le_trans (hls i hi) (by decide)) (by omega)
  obtain ⟨o, cap, rfl⟩ := hP.form
  replace ka := hideit ka
  replace kb := hideit kb
  replace hN := hideit hN
  replace hP := hideit hP
  replace hls := hideit hls
  replace hm := hideit hm
  replace hT := hideit hT
  have hE := hideit (Ext.refl w)
  go_enter Tryd.func4, Tryd.ntmps4
  go_upto_region 1 with (fail)
  refine wp_region_lit ?_
  refine wpList_run rfl (.slice o m cap) (by simp [go_sem]) ?_
  simp only [Act.put, List.setIfInBounds_toArray, List.set_cons_zero, List.set_cons_succ]
  refine wpList_run rfl (.int .i64 (m : Int)) (by simp [go_sem]) ?_
  simp only [Act.put, List.setIfInBounds_toArray, List.set_cons_zero, List.set_cons_succ]
  have hR := hideit (made_nil w m)
  have XN : Ext w (w.alloc (.cells (madeCells (Value.slice none 0 0).cells (m * 1)) 34)) := (Below.refl _ _).alloc (Nat.le_refl _) _
  have hsz : (w.alloc (.cells (madeCells (Value.slice none 0 0).cells (m * 1)) 34)).heap.size = w.heap.size + 1 := by simp
  refine wpList_to rfl (.slice (some ⟨w.heap.size, 0, none⟩) m m) (w.alloc (.cells (madeCells (Value.slice none 0 0).cells (m * 1)) 34)) (exec_made 24 34 (.tmp 14) (.tmp 14) rfl (.slice none 0 0) 1 24 m Tryd.underlying24 info34z rfl rfl (by have := hm.out; omega) (by have := hm.out; omega)) ?_
  simp only [Act.put, List.setIfInBounds_toArray, List.set_cons_zero, List.set_cons_succ]
  generalize w.alloc (.cells (madeCells (Value.slice none 0 0).cells (m * 1)) 34) = w2 at hR XN hsz ⊢
  have hT2 := hideit (hT.out.ext XN)
  have hw0 : Hid (0 < w.heap.size) := hT.out.2
  replace hE := hideit XN
  obtain ⟨g, hg⟩ : ∃ g, g = w.heap.size := ⟨_, rfl⟩
  rw [← hg] at hR ⊢
  have hg2 : Hid (g < w2.heap.size ∧ w.heap.size ≤ g) := hideit (by omega)
  clear XN hg hsz hT
  refine wpList_run rfl (.slice (some ⟨g, 0, none⟩) m m) (by simp [go_sem]) ?_
  simp only [Act.put, List.setIfInBounds_toArray, List.set_cons_zero, List.set_cons_succ]
  go_upto_region 2 with (fail)
  refine wp_region_lit ?_
  refine wpList_run rfl (.int .i64 0) (by simp [go_sem]) ?_
  simp only [Act.put, List.setIfInBounds_toArray, List.set_cons_zero, List.set_cons_succ]
  go_wp2
  go_loopw [6] (fun iv X => ∃ (k : Nat) (us' : Nat → Value), k ≤ m ∧ iv = .int .i64 (k : Int) ∧ RowAt g m (fun j => if j < k then us' j else .slice none 0 0) X ∧ (∀ j, j < k → OwnB w2.heap.size 5 (us' j) (ls j) (yv (fs j)) X) ∧ TabC X ∧ Ext w X ∧ w2.heap.size ≤ X.heap.size) (fun iv _ => 6000000000000 - (intOf iv).toNat)
  case atStart => exact ⟨0, us, Nat.zero_le _, rfl, hR.out.congr (fun j _ => by simp), fun j hj => absurd hj (Nat.not_lt_zero _), hT2.out, hE.out, Nat.le_refl _⟩
  case round =>
    obtain ⟨k, us', hk, rfl, hR2, hO, hT, hX, hz⟩ := hrel
    clear hR hT2 hE
    replace hR2 := hideit hR2
    replace hO := hideit hO
    replace hT := hideit hT
    replace hz := hideit hz
    by_cases hlt : k < m
    · have k1 : (k : Int) < (m : Int) := by omega
      have ek : IntKind.i64.wrap ((k : Int) + 1) = ((k + 1 : Nat) : Int) := by have := hm.out; rw [IntKind.wrap_i64]; omega
      obtain ⟨a, rfl, hel⟩ := (hP.out.ext hX).at k hlt
      have hpv := hideit ((hP.out.ext hX).2 k hlt)
      replace hX := hideit hX
      replace hlt := hideit hlt
      go_upto_region 3 with (fail)
      refine wp_region_lit ?_
      refine wpList_run rfl (.int .i64 (k : Int)) (by simp [go_sem]) ?_
      simp only [Act.put, List.setIfInBounds_toArray, List.set_cons_zero, List.set_cons_succ]
      refine wpList_run rfl (.slice (some a) m cap) (by simp [go_sem]) ?_
      simp only [Act.put, List.setIfInBounds_toArray, List.set_cons_zero, List.set_cons_succ]
      refine wpList_run rfl (.int .i64 (m : Int)) (by simp [go_sem]) ?_
      simp only [Act.put, List.setIfInBounds_toArray, List.set_cons_zero, List.set_cons_succ]
      refine wpList_run rfl (.bool true) (by simp [go_sem, k1]) ?_
      simp only [Act.put, List.setIfInBounds_toArray, List.set_cons_zero, List.set_cons_succ]
      go_upto_region 5 with (fail)
      refine wp_region_lit ?_
      refine wpList_run rfl (.slice (some ⟨g, 0, none⟩) m m) (by simp [go_sem]) ?_
      simp only [Act.put, List.setIfInBounds_toArray, List.set_cons_zero, List.set_cons_succ]
      refine wpList_run rfl (.int .i64 (k : Int)) (by simp [go_sem]) ?_
      simp only [Act.put, List.setIfInBounds_toArray, List.set_cons_zero, List.set_cons_succ]
      have XN : Ext wr (wr.alloc (.cells #[] 5)) := (Below.refl _ _).alloc (Nat.le_refl _) _
      have G0 := hideit (GB.empty wr (Ext.refl wr) (fs k))
      replace hpv := hideit (hpv.out.ext XN)
      replace hel := cell_ext' XN hel
      refine wpList_to rfl (.slice (some ⟨wr.heap.size, 0, none⟩) 0 0) (wr.alloc (.cells #[] 5)) (by simp [go_sem]) ?_
      simp only [Act.put, List.setIfInBounds_toArray, List.set_cons_zero, List.set_cons_succ]
      clear XN
      generalize wr.alloc (.cells #[] 5) = x1 at G0 hpv hel ⊢
      obtain ⟨g1, hg1⟩ : ∃ g, g = wr.heap.size := ⟨_, rfl⟩
      rw [← hg1] at G0 ⊢
      clear hg1
      refine wpList_run rfl (.slice (some a) m cap) (by simp [go_sem]) ?_
      simp only [Act.put, List.setIfInBounds_toArray, List.set_cons_zero, List.set_cons_succ]
      refine wpList_run rfl (.int .i64 (k : Int)) (by simp [go_sem]) ?_
      simp only [Act.put, List.setIfInBounds_toArray, List.set_cons_zero, List.set_cons_succ]
      refine wpList_run rfl (.pointer (some (a.add k))) (by simp [go_sem, k1]) ?_
      simp only [Act.put, List.setIfInBounds_toArray, List.set_cons_zero, List.set_cons_succ]
      refine wpList_run rfl (us k) (by simp [go_sem, hel]) ?_
      simp only [Act.put, List.setIfInBounds_toArray, List.set_cons_zero, List.set_cons_succ]
      refine wpList_gbP rfl (.tmp 24) (.tmp 28) rfl rfl G0.out (us k) (ls k) (fs k) rfl hpv.out (by have := hls.out k hlt.out; omega) ?_
      intro u x2 hG
      replace hG : GB wr u (ls k) (fs k) x2 := hG.congr (by omega) fun j hj => by unfold catF; rw [if_neg (by omega), Nat.sub_zero]
      simp only [Act.put, List.setIfInBounds_toArray, List.set_cons_zero, List.set_cons_succ]
      have hu : Hid (OwnB w2.heap.size 5 u (ls k) (yv (fs k)) x2) := hG.1.down hz.out
      obtain ⟨uo, uc, rfl⟩ := hG.form
      replace hO : Hid (∀ j, j < k → OwnB w2.heap.size 5 (us' j) (ls j) (yv (fs j)) x2) := fun j hj => (hO.out j hj).ext hG.2
      replace hR2 := hideit (hR2.out.carry hG.2)
      replace hT := hideit (hT.out.ext hG.2)
      replace hX := hideit (Ext.trans hX.out hG.2)
      replace hz := hideit (Nat.le_trans hz.out (Below.size hG.2))
      clear G0 hpv hel hG
      refine wpList_run rfl (.pointer (some ⟨g, k, none⟩)) (by simp [go_sem, k1]) ?_
      simp only [Act.put, List.setIfInBounds_toArray, List.set_cons_zero, List.set_cons_succ]
      have M0 : x2.cell? ⟨g, k, none⟩ = some (.slice none 0 0) := by have := hR2.out.1 k hlt.out; simpa using this
      have M1 : x2.frozen? ⟨g, k, none⟩ = false := hR2.out.2.1 k hlt.out
      have N0 := hideit ((hR2.out.set k (.slice uo (ls k) uc)).congr (g' := fun j => if j < k + 1 then up1 us' k (.slice uo (ls k) uc) j else .slice none 0 0) fun j hj => by
        unfold up1
        by_cases e : j = k
        · subst e; simp
        · by_cases e2 : j < k
          · simp [e, e2, show j < k + 1 by omega]
          · simp [e, e2, show ¬ j < k + 1 by omega])
      have N1 : Hid (∀ j, j < k + 1 → OwnB w2.heap.size 5 (up1 us' k (.slice uo (ls k) uc) j) (ls j) (yv (fs j)) (x2.setCell ⟨g, k, none⟩ (.slice uo (ls k) uc))) := fun j hj => by
        have ne : ∀ {v : Value} {l : Nat} {f : Nat → Value}, OwnB w2.heap.size 5 v l f x2 → v.ownBlock ≠ some g := fun h e => by
          have := (h.lt g e).1
          have := hg2.out.1
          omega
        by_cases e : j = k
        · subst e
          rw [up1_same]
          exact hu.out.other _ (ne hu.out) _
        · rw [up1_other _ e]
          exact (hO.out j (by omega)).other _ (ne (hO.out j (by omega))) _
      have N2 : Hid (Ext w (x2.setCell ⟨g, k, none⟩ (.slice uo (ls k) uc))) := Below.setCell hX.out (p := ⟨g, k, none⟩) hg2.out.2 _
      have N3 : Hid (TabC (x2.setCell ⟨g, k, none⟩ (.slice uo (ls k) uc))) := tabc_set hT.out _ _ (by show g ≠ 0; have := hg2.out.2; have := hw0.out; omega)
      have N4 : Hid (w2.heap.size ≤ (x2.setCell ⟨g, k, none⟩ (.slice uo (ls k) uc)).heap.size) := hideit (by rw [World.size_setCell]; exact hz.out)
      refine xst rfl (x2.setCell ⟨g, k, none⟩ (.slice uo (ls k) uc)) (by simp [go_sem, M0, M1]) ?_
      simp only [Act.put]
      generalize x2.setCell ⟨g, k, none⟩ (.slice uo (ls k) uc) = x3 at N0 N1 N2 N3 N4 ⊢
      clear M0 M1 hR2 hO hX hT hz hu
      go_upto_region 4 with (fail)
      refine wp_region_lit ?_
      refine wpList_run rfl (.int .i64 (k : Int)) (by simp [go_sem]) ?_
      simp only [Act.put, List.setIfInBounds_toArray, List.set_cons_zero, List.set_cons_succ]
      refine wpList_run rfl (.int .i64 ((k + 1 : Nat) : Int)) (by simp [go_sem, ek]) ?_
      simp only [Act.put, List.setIfInBounds_toArray, List.set_cons_zero, List.set_cons_succ]
      refine wpList_run rfl (.int .i64 ((k + 1 : Nat) : Int)) (by simp [go_sem]) ?_
      simp only [Act.put, List.setIfInBounds_toArray, List.set_cons_zero, List.set_cons_succ]
      go_wp2
      refine ⟨⟨k + 1, up1 us' k (.slice uo (ls k) uc), by have := hlt.out; omega, rfl, N0.out, N1.out, N3.out, N2.out, N4.out⟩, by have := hlt.out; have := hm.out; simp [intOf]; omega⟩
    · obtain rfl : k = m := by omega
      have k1 : ¬ (k : Int) < (k : Int) := by omega
      have hPo : Hid (PL (.slice (some ⟨g, 0, none⟩) k k) k us' ls fs wr) := ⟨.inr ⟨_, k, rfl, Nat.le_refl _, fun j hj => by have := hR2.out.1 j hj; rw [add0]; simpa [hj] using this⟩, fun i hi => (hO.out i hi).bv.pv⟩
      have hB0 : Hid (0 < k → BV (us' 0) (ls 0) (fs 0) wr) := fun h => (hO.out 0 h).bv
      have hPb := hideit (hP.out.ext hX)
      replace hX := hideit hX
      clear hR2 hO hP hz
      go_upto_region 3 with (fail)
      refine wp_region_lit ?_
      refine wpList_run rfl (.int .i64 (k : Int)) (by simp [go_sem]) ?_
      simp only [Act.put, List.setIfInBounds_toArray, List.set_cons_zero, List.set_cons_succ]
      refine wpList_run rfl (.slice o k cap) (by simp [go_sem]) ?_
      simp only [Act.put, List.setIfInBounds_toArray, List.set_cons_zero, List.set_cons_succ]
      refine wpList_run rfl (.int .i64 (k : Int)) (by simp [go_sem]) ?_
      simp only [Act.put, List.setIfInBounds_toArray, List.set_cons_zero, List.set_cons_succ]
      refine wpList_run rfl (.bool false) (by simp [go_sem, k1]) ?_
      simp only [Act.put, List.setIfInBounds_toArray, List.set_cons_zero, List.set_cons_succ]
      go_upto_region 6 with (fail)
      refine wp_region_lit ?_
      refine wpList_run rfl (.int .u64 (x.toNat : Int)) (by simp [go_sem]) ?_
      simp only [Act.put, List.setIfInBounds_toArray, List.set_cons_zero, List.set_cons_succ]
      refine wpList_run rfl (.slice (some ⟨g, 0, none⟩) k k) (by simp [go_sem]) ?_
      simp only [Act.put, List.setIfInBounds_toArray, List.set_cons_zero, List.set_cons_succ]
      refine wpList_call rfl (by simp [go_sem]) ((ka.out _ _ wr hT.out hPo.out hB0.out).mono ?_)
      rintro e y1 ⟨p1, pu, rfl, hp1, hX1⟩
      refine ⟨_, rfl, ?_⟩
      simp only [Act.put, List.setIfInBounds_toArray, List.set_cons_zero, List.set_cons_succ]
      replace hPo := hideit (hPo.out.ext hX1)
      replace hPb := hideit (hPb.out.ext hX1)
      replace hT := hideit (hT.out.ext hX1)
      replace hX := hideit (Ext.trans hX.out hX1)
      obtain ⟨po, pc, rfl⟩ := hp1.form
      replace hp1 := hideit hp1
      clear hX1 hB0 ka
      refine wpList_run rfl (.tuple #[.slice po N pc, .int .i64 (C), .int .i64 (E)]) (by simp [go_sem]) ?_
      simp only [Act.put, List.setIfInBounds_toArray, List.set_cons_zero, List.set_cons_succ]
      refine wpList_run rfl (.slice po N pc) (by simp [go_sem]) ?_
      simp only [Act.put, List.setIfInBounds_toArray, List.set_cons_zero, List.set_cons_succ]
      refine wpList_run rfl (.int .i64 (C)) (by simp [go_sem]) ?_
      simp only [Act.put, List.setIfInBounds_toArray, List.set_cons_zero, List.set_cons_succ]
      refine wpList_run rfl (.int .i64 (E)) (by simp [go_sem]) ?_
      simp only [Act.put, List.setIfInBounds_toArray, List.set_cons_zero, List.set_cons_succ]
      refine wpList_run rfl (.slice po N pc) (by simp [go_sem]) ?_
      simp only [Act.put, List.setIfInBounds_toArray, List.set_cons_zero, List.set_cons_succ]
      refine wpList_run rfl (.int .i64 (C)) (by simp [go_sem]) ?_
      simp only [Act.put, List.setIfInBounds_toArray, List.set_cons_zero, List.set_cons_succ]
      refine wpList_run rfl (.int .i64 (E)) (by simp [go_sem]) ?_
      simp only [Act.put, List.setIfInBounds_toArray, List.set_cons_zero, List.set_cons_succ]
      go_upto_region 7 with (fail)
      refine wp_region_lit ?_
      refine wpList_run rfl (.int .u64 (x.toNat : Int)) (by simp [go_sem]) ?_
      simp only [Act.put, List.setIfInBounds_toArray, List.set_cons_zero, List.set_cons_succ]
      refine wpList_run rfl (.slice o k cap) (by simp [go_sem]) ?_
      simp only [Act.put, List.setIfInBounds_toArray, List.set_cons_zero, List.set_cons_succ]
      refine wpList_call rfl (by simp [go_sem]) ((kb.out _ _ y1 hPb.out).mono ?_)
      rintro e y2 ⟨q1, qu, rfl, hq1, hX2⟩
      refine ⟨_, rfl, ?_⟩
      simp only [Act.put, List.setIfInBounds_toArray, List.set_cons_zero, List.set_cons_succ]
      replace hPo := hideit (hPo.out.ext hX2)
      replace hPb := hideit (hPb.out.ext hX2)
      replace hT := hideit (hT.out.ext hX2)
      replace hp1 := hideit (hp1.out.ext hX2)
      replace hX := hideit (Ext.trans hX.out hX2)
      obtain ⟨qo, qc, rfl⟩ := hq1.form
      replace hq1 := hideit hq1
      clear hX2 kb
      refine wpList_run rfl (.tuple #[.slice qo N qc, .int .i64 (C), .int .i64 (E)]) (by simp [go_sem]) ?_
      simp only [Act.put, List.setIfInBounds_toArray, List.set_cons_zero, List.set_cons_succ]
      refine wpList_run rfl (.slice qo N qc) (by simp [go_sem]) ?_
      simp only [Act.put, List.setIfInBounds_toArray, List.set_cons_zero, List.set_cons_succ]
      refine wpList_run rfl (.int .i64 (C)) (by simp [go_sem]) ?_
      simp only [Act.put, List.setIfInBounds_toArray, List.set_cons_zero, List.set_cons_succ]
      refine wpList_run rfl (.int .i64 (E)) (by simp [go_sem]) ?_
      simp only [Act.put, List.setIfInBounds_toArray, List.set_cons_zero, List.set_cons_succ]
      refine wpList_run rfl (.slice qo N qc) (by simp [go_sem]) ?_
      simp only [Act.put, List.setIfInBounds_toArray, List.set_cons_zero, List.set_cons_succ]
      refine wpList_run rfl (.int .i64 (C)) (by simp [go_sem]) ?_
      simp only [Act.put, List.setIfInBounds_toArray, List.set_cons_zero, List.set_cons_succ]
      refine wpList_run rfl (.int .i64 (E)) (by simp [go_sem]) ?_
      simp only [Act.put, List.setIfInBounds_toArray, List.set_cons_zero, List.set_cons_succ]
      go_upto_region 8 with (fail)
      refine wp_region_lit ?_
      refine wpList_call rfl (by simp [go_sem]) ((lives_any y2 hT.out).mono ?_)
      rintro e y1 ⟨rfl, hX2⟩
      refine ⟨_, rfl, ?_⟩
      simp only [Act.put, List.setIfInBounds_toArray, List.set_cons_zero, List.set_cons_succ]
      replace hPo := hideit (hPo.out.ext hX2)
      replace hPb := hideit (hPb.out.ext hX2)
      replace hT := hideit (hT.out.ext hX2)
      replace hp1 := hideit (hp1.out.ext hX2)
      replace hq1 := hideit (hq1.out.ext hX2)
      replace hX := hideit (Ext.trans hX.out hX2)

      clear hX2
      refine wpList_run rfl (.bool true) (by simp [go_sem]) ?_
      simp only [Act.put, List.setIfInBounds_toArray, List.set_cons_zero, List.set_cons_succ]
      refine wpList_runW rfl (.slice po N pc) (by simp [go_sem]) ?_
      simp only [Act.put, List.setIfInBounds_toArray, List.set_cons_zero, List.set_cons_succ]
      refine wpList_runW rfl (.slice qo N qc) (by simp [go_sem]) ?_
      simp only [Act.put, List.setIfInBounds_toArray, List.set_cons_zero, List.set_cons_succ]
      refine wpList_callW rfl (by simp [go_sem]) ((samer_any _ _ N bs pu qu L xs y1 hp1.out hq1.out (by have := hN.out; omega)).mono ?_)
      rintro e y3 ⟨rfl, hX4⟩
      refine ⟨_, rfl, ?_⟩
      simp only [Act.put, List.setIfInBounds_toArray, List.set_cons_zero, List.set_cons_succ]
      replace hPo := hideit (hPo.out.ext hX4)
      replace hPb := hideit (hPb.out.ext hX4)
      replace hT := hideit (hT.out.ext hX4)
      replace hp1 := hideit (hp1.out.ext hX4)
      replace hq1 := hideit (hq1.out.ext hX4)
      replace hX := hideit (Ext.trans hX.out hX4)

      clear hX4
      refine wpList_run rfl (.bool true) (by simp [go_sem]) ?_
      simp only [Act.put, List.setIfInBounds_toArray, List.set_cons_zero, List.set_cons_succ]
      refine wpList_run rfl (.bool true) (by simp [go_sem]) ?_
      simp only [Act.put, List.setIfInBounds_toArray, List.set_cons_zero, List.set_cons_succ]
      refine wpList_runW rfl (.int .i64 (C)) (by simp [go_sem]) ?_
      simp only [Act.put, List.setIfInBounds_toArray, List.set_cons_zero, List.set_cons_succ]
      refine wpList_runW rfl (.int .i64 (C)) (by simp [go_sem]) ?_
      simp only [Act.put, List.setIfInBounds_toArray, List.set_cons_zero, List.set_cons_succ]
      refine wpList_runW rfl (.bool true) (by simp [go_sem]) ?_
      simp only [Act.put, List.setIfInBounds_toArray, List.set_cons_zero, List.set_cons_succ]
      refine wpList_run rfl (.bool true) (by simp [go_sem]) ?_
      simp only [Act.put, List.setIfInBounds_toArray, List.set_cons_zero, List.set_cons_succ]
      refine wpList_run rfl (.bool true) (by simp [go_sem]) ?_
      simp only [Act.put, List.setIfInBounds_toArray, List.set_cons_zero, List.set_cons_succ]
      refine wpList_runW rfl (.int .i64 (E)) (by simp [go_sem]) ?_
      simp only [Act.put, List.setIfInBounds_toArray, List.set_cons_zero, List.set_cons_succ]
      refine wpList_runW rfl (.int .i64 (E)) (by simp [go_sem]) ?_
      simp only [Act.put, List.setIfInBounds_toArray, List.set_cons_zero, List.set_cons_succ]
      refine wpList_runW rfl (.bool true) (by simp [go_sem]) ?_
      simp only [Act.put, List.setIfInBounds_toArray, List.set_cons_zero, List.set_cons_succ]
      refine wpList_run rfl (.bool true) (by simp [go_sem]) ?_
      simp only [Act.put, List.setIfInBounds_toArray, List.set_cons_zero, List.set_cons_succ]
      refine wpList_run rfl (.bool true) (by simp [go_sem]) ?_
      simp only [Act.put, List.setIfInBounds_toArray, List.set_cons_zero, List.set_cons_succ]
      refine wpList_runW rfl (.slice (some ⟨g, 0, none⟩) k k) (by simp [go_sem]) ?_
      simp only [Act.put, List.setIfInBounds_toArray, List.set_cons_zero, List.set_cons_succ]
      refine wpList_runW rfl (.slice o k cap) (by simp [go_sem]) ?_
      simp only [Act.put, List.setIfInBounds_toArray, List.set_cons_zero, List.set_cons_succ]
      refine wpList_callW rfl (by simp [go_sem]) ((sameb_any _ _ k us' us ls fs y3 hPo.out hPb.out (by have := hm.out; omega)).mono ?_)
      rintro e y5 ⟨rfl, hX6⟩
      refine ⟨_, rfl, ?_⟩
      simp only [Act.put, List.setIfInBounds_toArray, List.set_cons_zero, List.set_cons_succ]
      replace hPo := hideit (hPo.out.ext hX6)
      replace hPb := hideit (hPb.out.ext hX6)
      replace hT := hideit (hT.out.ext hX6)
      replace hp1 := hideit (hp1.out.ext hX6)
      replace hq1 := hideit (hq1.out.ext hX6)
      replace hX := hideit (Ext.trans hX.out hX6)

      clear hX6
      refine wpList_run rfl (.bool true) (by simp [go_sem]) ?_
      simp only [Act.put, List.setIfInBounds_toArray, List.set_cons_zero, List.set_cons_succ]
      refine wpList_run rfl (.bool true) (by simp [go_sem]) ?_
      simp only [Act.put, List.setIfInBounds_toArray, List.set_cons_zero, List.set_cons_succ]
      go_wp2
      go_ret
      exact ⟨rfl, hX.out⟩
end Go.Proofs.YtedgopionpdfeaaDoor
namespace Go.Proofs.YtedgopionpdfeaaDoor
open Go.ChangeShapes Go.WideShapes Go.ChangeAt Go.RowKit
theorem weightsAll_mem {H : Type} {P : Program} {e : TypeId} : ∀ {l : List (DataW H)} {d : DataW H}, d ∈ l → ∀ n ∈ d.weights P e, n ∈ DataW.weightsAll P e l
  | d0 :: r, d, h, n, hn => by
    simp only [DataW.weightsAll, List.mem_append]
    rcases List.mem_cons.1 h with rfl | h
    · exact .inl hn
    · exact .inr (weightsAll_mem h n hn)
theorem trod_stW {H : Type} {enc : TypeId × Value → H} {P : Program} {w : World} {base : Nat} {spare : Nat → Bool} {held : Bool} {t : TypeId} {fs : List Field} {fuel : Nat} {cs : List Value} {x : DataW H × List MemPlace} (ht : P.underlying t = some (.struct fs.toArray)) (h : DataW.trod enc P w base spare held fuel t cs = some x) :
    ∃ n, cs.length = P.cellsOf t ∧ ∀ (i : Nat) (f : Field), fs[i]? = some f → ∃ y, DataW.trod enc P w base spare held n f.type ((cs.drop f.offset).take (P.cellsOf f.type)) = some y ∧ ∀ m ∈ y.1.weights P f.type, m ∈ x.1.weights P t := by
  obtain ⟨xs, n, _, hx, hl, hlen, hf⟩ := DataW.trod_struct ht h
  refine ⟨n, hl, fun i f hi => ?_⟩
  have hi2 : fs.toArray[i]? = some f := by simpa using hi
  have hlt : i < xs.length := by
    have := (List.getElem?_eq_some_iff.1 hi).1
    simp at hlen
    omega
  refine ⟨xs[i], by rw [hf i f hi2, List.getElem?_eq_getElem hlt], fun m hm => ?_⟩
  rw [hx]
  simp only [DataW.weights, ht]
  exact DataW.weights_mem_each (j := i) (by simp [hi]) (by simp [hlt]) m hm
set_option maxRecDepth 100000 in
theorem open_pieceW {H : Type} {enc : TypeId × Value → H} {W : World} {base : Nat} {spare : Nat → Bool} {held : Bool} {n : Nat} {cs : List Value} {x : DataW H × List MemPlace} (h : DataW.trod enc Tryd.prog W base spare held n 34 cs = some x) (hw : ∀ m ∈ x.1.weights Tryd.prog 34, m ≤ reachBytes) :
    ∃ u l b, cs = [u] ∧ PV u l b W ∧ l ≤ reachBytes := by
  rcases open_ints Tryd.underlying34 Tryd.underlying5 (by kernel_rfl) h with ⟨hcs, hx⟩ | ⟨a, len, cap, zs, hcs, _, hl, hm, hz, hd, hcell, hwz⟩
  · exact ⟨.slice none 0 0, 0, fun _ => 0#8, hcs, .inl ⟨rfl, rfl⟩, Nat.zero_le _⟩
  · have hlen : len ≤ zs.length := by rw [hz]; split <;> omega
    have hall : ∀ i, i < len → ∃ c : BitVec 8, zs.getD i 0 = (c.toNat : Int) := fun i hi => by
      refine of_wf8 (hwz _ ?_)
      rw [List.getD_eq_getElem?_getD, List.getElem?_eq_getElem (by omega), Option.getD_some]
      exact List.getElem_mem _
    refine ⟨.slice (some a) len cap, len, fun i => if h : i < len then (hall i h).choose else 0#8, hcs, .inr ⟨a, cap, rfl, hl, fun j hj => ?_⟩, ?_⟩
    · rw [hcell j (by omega)]
      simp only [yv, dif_pos hj]
      rw [← (hall j hj).choose_spec]
    · have b5 : Tryd.prog.bytesOf 5 = 1 := by kernel_rfl
      have h1 := hw (((lits .u8 (zs.take len)).length (α := DataW H) + (lits .u8 (zs.drop len)).length (α := DataW H)) * Tryd.prog.bytesOf 5) (by rw [hd]; simp [DataW.weights, Tryd.underlying34])
      rw [b5] at h1
      simp [lits] at h1
      omega
set_option maxRecDepth 100000 in
theorem redo_cellsW {H : Type} {enc : TypeId × Value → H} {W : World} {base : Nat} {spare : Nat → Bool} {held : Bool} {n : Nat} {cs : List Value} {x : DataW H × List MemPlace} (h : DataW.trod enc Tryd.prog W base spare held n 51 cs = some x) (hw : ∀ m ∈ x.1.weights Tryd.prog 51, m ≤ reachBytes) :
    ∃ (k : Int) (u : Value), cs = [.int .i64 k, u] ∧ okI k ∧ (∃ l b, PV u l b W ∧ l ≤ reachBytes) := by
  have c3 : Tryd.prog.cellsOf 3 = 1 := by kernel_rfl
  have c34 : Tryd.prog.cellsOf 34 = 1 := by kernel_rfl
  have c51 : Tryd.prog.cellsOf 51 = 2 := by kernel_rfl
  obtain ⟨mm, hl, hf⟩ := trod_stW (fs := [_, _]) Tryd.underlying51 h
  obtain ⟨y0, h0, _⟩ := hf 0 _ rfl
  obtain ⟨y1, h1, w1⟩ := hf 1 _ rfl
  rw [c51] at hl
  match cs, hl with
  | [v0, v1], _ =>
    simp only [c3, c34, List.drop_succ_cons, List.drop_zero, List.take_succ_cons, List.take_zero] at h0 h1
    obtain ⟨k, e0, _, w0⟩ := DataW.trod_int Tryd.underlying3 h0
    obtain ⟨u, l, b, e1, hp, hl⟩ := open_pieceW h1 fun n hn => hw n (w1 n hn)
    simp only [List.cons.injEq, and_true] at e0 e1
    subst e0 e1
    exact ⟨k, _, rfl, w0, l, b, hp, hl⟩
/-- redos that came in -/
def RArg (v : Value) (W : World) : Prop := ∃ n bs us ls fs, RLs v n bs us ls fs W ∧ (∀ i, i < n → okI (bs i)) ∧ n ≤ 4398046511104
set_option maxRecDepth 100000 in
theorem rarg {H : Type} {enc : TypeId × Value → H} {W : World} {r : Reach} {b0 base : Nat} {spare : Nat → Bool} {held : Bool} {v : Value} {d : DataW H} {p : List MemPlace} {ts : List TypeId} {ds : List (DataW H)}
    (hv : Value.okWide Tryd.prog W r b0 23 v) (h : DataW.Trod enc Tryd.prog W base spare held 23 v d p) (hsz : (DataW.weightsEach Tryd.prog ts ds).all (· ≤ reachBytes) = true) (jj : Nat) (ht : ts[jj]? = some 23) (hd : ds[jj]? = some d) : RArg v W := by
  obtain ⟨a, len, cap, rfl⟩ := okWide_slice Tryd.underlying23 hv
  obtain ⟨fuel, hf⟩ := h
  have hC : Tryd.prog.cellsOf 51 = 2 := by kernel_rfl
  have hB : Tryd.prog.bytesOf 51 = 32 := by kernel_rfl
  rcases Go.Deep.open_slice Tryd.underlying23 hf with ⟨hcs, _⟩ | ⟨x, l, c, m, n, D, Pl, hcs, _, hl, hm, hmm, hdx, hx⟩
  · simp [Value.cells] at hcs
    obtain ⟨rfl, rfl, rfl⟩ := hcs
    exact ⟨0, fun _ => 0, fun _ => undef, fun _ => 0, fun _ _ => 0#8, ⟨.inl ⟨rfl, rfl⟩, fun i hi => by omega⟩, fun i hi => by omega, by decide⟩
  · simp [Value.cells] at hcs
    obtain ⟨rfl, rfl, rfl⟩ := hcs
    have hdx' : d = .slice ((List.range len).map D) ((List.range (m - len)).map fun j => D (len + j)) := congrArg Prod.fst hdx
    have hall : ∀ n ∈ d.weights Tryd.prog 23, n ≤ reachBytes := fun n hn => by
      have := List.all_eq_true.1 hsz _ (DataW.weights_mem_each ht hd n hn)
      simpa using this
    have hnn : len ≤ 4398046511104 := by
      rw [hdx'] at hd
      have h1 := sized_slice hsz ht hd Tryd.underlying23
      rw [hB] at h1
      unfold reachBytes at h1
      simp at h1
      omega
    have hlm : len ≤ m := by rw [hmm]; split <;> omega
    have each : ∀ i, i < len → ∃ y : Int × Value × Nat × (Nat → BitVec 8), (∀ j, j < 2 → W.cell? (x.add (i * 2 + j)) = some (rdC (fun _ => y.1) (fun _ => y.2.1) j)) ∧ okI y.1 ∧ PV y.2.1 y.2.2.1 y.2.2.2 W ∧ y.2.2.1 ≤ 140737488355328 := by
      intro i hi
      obtain ⟨cs', h1, h2⟩ := hx i (by omega)
      rw [hC] at h1
      obtain ⟨_, hlen, hcell⟩ := World.cells?_some h1
      obtain ⟨k, u, rfl, hk, l', b', hp, hl'⟩ := redo_cellsW h2 (fun n hn => hall n (by rw [hdx']; simp only [DataW.weights, Tryd.underlying23, List.mem_cons, List.mem_append]; exact .inr (.inl (weightsAll_mem (List.mem_map.2 ⟨i, by simpa using hi, rfl⟩) n hn))))
      refine ⟨(k, u, l', b'), fun j hj => ?_, hk, hp, by unfold reachBytes at hl'; show l' ≤ _; omega⟩
      have e := hcell j (by omega)
      rw [add_add] at e
      rw [e]
      rcases (by omega : j = 0 ∨ j = 1) with rfl | rfl <;> rfl
    obtain ⟨y, hy⟩ := Go.Deep.choose_lt each
    refine ⟨len, fun i => (y i).1, fun i => (y i).2.1, fun i => (y i).2.2.1, fun i => (y i).2.2.2, ⟨.inr ⟨x, cap, rfl, hl, fun j hj => ?_⟩, fun i hi => (hy i hi).2.2⟩, fun i hi => (hy i hi).2.1, hnn⟩
    have e := (hy (j / 2) (by omega)).1 (j % 2) (Nat.mod_lt _ (by decide))
    rw [show j / 2 * 2 + j % 2 = j by omega] at e
    rw [e]
    unfold rdC
    rw [show j % 2 % 2 = j % 2 by omega]
/-- blocks that came in -/
def PArg2 (v : Value) (W : World) : Prop := ∃ n us ls fs, PL v n us ls fs W ∧ (∀ i, i < n → ls i ≤ 140737488351232) ∧ n ≤ 5864062014634
set_option maxRecDepth 100000 in
theorem blarg {H : Type} {enc : TypeId × Value → H} {W : World} {r : Reach} {b0 base : Nat} {spare : Nat → Bool} {held : Bool} {v : Value} {d : DataW H} {p : List MemPlace} {ts : List TypeId} {ds : List (DataW H)}
    (hv : Value.okWide Tryd.prog W r b0 24 v) (h : DataW.Trod enc Tryd.prog W base spare held 24 v d p) (hsz : (DataW.weightsEach Tryd.prog ts ds).all (· ≤ reachBytes) = true) (jj : Nat) (ht : ts[jj]? = some 24) (hd : ds[jj]? = some d) : PArg2 v W := by
  obtain ⟨a, len, cap, rfl⟩ := okWide_slice Tryd.underlying24 hv
  obtain ⟨fuel, hf⟩ := h
  have hC : Tryd.prog.cellsOf 34 = 1 := by kernel_rfl
  have hB : Tryd.prog.bytesOf 34 = 24 := by kernel_rfl
  rcases Go.Deep.open_slice Tryd.underlying24 hf with ⟨hcs, _⟩ | ⟨x, l, c, m, n, D, Pl, hcs, _, hl, hm, hmm, hdx, hx⟩
  · simp [Value.cells] at hcs
    obtain ⟨rfl, rfl, rfl⟩ := hcs
    exact ⟨0, fun _ => undef, fun _ => 0, fun _ _ => 0#8, ⟨.inl ⟨rfl, rfl⟩, fun i hi => by omega⟩, fun i hi => by omega, by decide⟩
  · simp [Value.cells] at hcs
    obtain ⟨rfl, rfl, rfl⟩ := hcs
    have hdx' : d = .slice ((List.range len).map D) ((List.range (m - len)).map fun j => D (len + j)) := congrArg Prod.fst hdx
    have hall : ∀ n ∈ d.weights Tryd.prog 24, n ≤ reachBytes := fun n hn => by
      have := List.all_eq_true.1 hsz _ (DataW.weights_mem_each ht hd n hn)
      simpa using this
    have hnn : len ≤ 5864062014634 := by
      rw [hdx'] at hd
      have h1 := sized_slice hsz ht hd Tryd.underlying24
      rw [hB] at h1
      unfold reachBytes at h1
      simp at h1
      omega
    have hlm : len ≤ m := by rw [hmm]; split <;> omega
    have each : ∀ i, i < len → ∃ y : Value × Nat × (Nat → BitVec 8), W.cell? (x.add i) = some y.1 ∧ PV y.1 y.2.1 y.2.2 W ∧ y.2.1 ≤ 140737488351232 := by
      intro i hi
      obtain ⟨cs', h1, h2⟩ := hx i (by omega)
      rw [hC] at h1
      obtain ⟨_, hlen, hcell⟩ := World.cells?_some h1
      obtain ⟨u, l', b', rfl, hp, hl'⟩ := open_pieceW h2 (fun n hn => hall n (by rw [hdx']; simp only [DataW.weights, Tryd.underlying24, List.mem_cons, List.mem_append]; exact .inr (.inl (weightsAll_mem (List.mem_map.2 ⟨i, by simpa using hi, rfl⟩) n hn))))
      refine ⟨(u, l', b'), ?_, hp, by unfold reachBytes at hl'; show l' ≤ _; omega⟩
      have e := hcell 0 (by omega)
      rw [add_add, Nat.mul_one, Nat.add_zero] at e
      rw [e]
      rfl
    obtain ⟨y, hy⟩ := Go.Deep.choose_lt each
    exact ⟨len, fun i => (y i).1, fun i => (y i).2.1, fun i => (y i).2.2, ⟨.inr ⟨x, cap, rfl, hl, fun j hj => (hy j hj).1⟩, fun i hi => (hy i hi).2.1⟩, fun i hi => (hy i hi).2.2, hnn⟩
end Go.Proofs.YtedgopionpdfeaaDoor
