/-
  Whether numbers are those of blocks, none twice; whether a plan may be. Numbers written into a list; a plan as it is written; a seal; a mark; a redo's bytes as they stand.
-/
import Derived.Test.YtiakkclabgelfaaDoorQc1
import Derived.Test.YtiakkclabgelfaaDoorQc22
namespace Go.Proofs.YtiakkclabgelfaaDoor
set_option maxRecDepth 20000
open Go.RowKit Go.BigFrame Go.Maps
theorem exec_look {P : Program} {o : Oper} {a : Act} {w : World} {t : TypeId} {m x v : Value} {c : Bool} (y z : Operand) (ho : o.op = .lookup t y z c) (hy : a.eval y = m) (hz : a.eval z = x) (hr : (Instr.lookup t m x c).run P w = .ok v w) : (execOp a.eval o).run P w = .ok (.value v) w := by
  simp [execOp, ho, hy, hz, hr, Result.andThen]
theorem exec_mput {P : Program} {o : Oper} {a : Act} {w w' : World} {t : TypeId} {m k v : Value} (x y z : Operand) (ho : o.op = .mapUpdate t x y z) (hx : a.eval x = m) (hy : a.eval y = k) (hz : a.eval z = v)
    (hr : (Instr.mapUpdate t m k v).run P w = .ok () w') : (execOp a.eval o).run P w = .ok .skip w' := by
  simp [execOp, ho, hx, hy, hz, hr, Result.andThen]
def IL (v : Value) (n : Nat) (bs : Nat → Int) (w : World) : Prop := ((v = .slice none 0 0 ∧ n = 0) ∨ ∃ a cap, v = .slice (some a) n cap ∧ n ≤ cap ∧ LieAt a n (fun j => .int .i64 (bs j)) w) ∧ ∀ j, j < n → okI (bs j)
theorem IL.ext {v : Value} {n : Nat} {bs : Nat → Int} {w X : World} (h : IL v n bs w) (k : Ext w X) : IL v n bs X := by
  refine ⟨?_, h.2⟩
  rcases h.1 with h1 | ⟨a, cap, h1, h2, h3⟩
  · exact .inl h1
  · exact .inr ⟨a, cap, h1, h2, h3.carry k⟩
theorem IL.form {v : Value} {n : Nat} {bs : Nat → Int} {w : World} (h : IL v n bs w) : ∃ o cap, v = .slice o n cap := by
  rcases h.1 with ⟨h1, h2⟩ | ⟨a, cap, h1, _⟩
  · exact ⟨none, 0, by rw [h1, h2]⟩
  · exact ⟨_, cap, h1⟩
theorem OwnB.il {base : Nat} {v : Value} {n : Nat} {bs : Nat → Int} {w : World} (h : OwnB base 3 v n (fun j => .int .i64 (bs j)) w) (hk : ∀ j, j < n → okI (bs j)) : IL v n bs w := by
  refine ⟨?_, hk⟩
  rcases h.2 with ⟨h1, h2⟩ | ⟨g, cap, cur, h1, _, hg, hc, _⟩
  · exact .inl ⟨h1, h2⟩
  · refine .inr ⟨⟨g, 0, none⟩, cap, h1, hc, ?_⟩
    rcases Nat.eq_zero_or_pos n with h0 | h0
    · subst h0
      exact ⟨fun j hj => absurd hj (Nat.not_lt_zero _), (Array.getElem?_eq_some_iff.1 hg).1⟩
    · obtain ⟨g', cap', e, _, _, _, hR⟩ := h.lies h0
      rw [h1] at e
      have e2 : g = g' := congrArg Addr.block (Option.some.inj (Value.slice.inj e).1)
      subst e2
      exact hR.lie n (Nat.le_refl _)
def okB (x : Int) : Prop := 0 ≤ x ∧ x < 4096
def rbs (n : Nat) (bs : Nat → Int) : Prop := ∀ i, i < n → okB (bs i) ∧ ∀ j, j < i → bs j ≠ bs i
def mB (bs : Nat → Int) : Nat → Int → Option Value
  | 0 => fun _ => none
  | k + 1 => mset (mB bs k) (bs k) (some (.agg #[]))
theorem mB_get (bs : Nat → Int) : ∀ (k : Nat) (x : Int), (mB bs k x).getD (.agg #[]) = .agg #[]
  | 0, _ => rfl
  | k + 1, x => by
    show (mset (mB bs k) (bs k) (some (.agg #[])) x).getD _ = _
    unfold mset
    split
    · rfl
    · exact mB_get bs k x
theorem mB_some (bs : Nat → Int) : ∀ (k : Nat) (x : Int), (mB bs k x).isSome = true ↔ ∃ j, j < k ∧ bs j = x
  | 0, x => ⟨fun h => absurd h (by simp [mB]), fun ⟨j, hj, _⟩ => absurd hj (Nat.not_lt_zero _)⟩
  | k + 1, x => by
    show (mset (mB bs k) (bs k) (some (.agg #[])) x).isSome = true ↔ _
    unfold mset
    by_cases e : x = bs k
    · rw [if_pos e]
      exact ⟨fun _ => ⟨k, Nat.lt_succ_self k, e.symm⟩, fun _ => rfl⟩
    · rw [if_neg e, mB_some bs k x]
      constructor
      · rintro ⟨j, hj, h⟩
        exact ⟨j, by omega, h⟩
      · rintro ⟨j, hj, h⟩
        refine ⟨j, ?_, h⟩
        rcases Nat.lt_succ_iff_lt_or_eq.1 hj with q | q
        · exact q
        · exact absurd (q ▸ h).symm e
theorem zero103 (w : World) : (zeroValue 128).run Tryd.prog w = .ok (.agg #[]) w := by kernel_rfl
theorem info103 : (Tryd.prog.info? 128).map (·.size) = some 0 := by kernel_rfl
theorem alloc103 {o : Oper} {a : Act} {w : World} (ho : o.op = .alloc 128) : (execOp a.eval o).run Tryd.prog w = .ok (.value (.pointer (some ⟨w.heap.size, 0, none⟩))) (w.alloc (.cells #[] 128)) := by
  unfold execOp
  simp only [ho, Instr.alloc, zero103, newVar, newRow, Value.cells, Sem.run_bind, Sem.run_pure, Result.andThen_ok]
  rfl
set_option maxRecDepth 20000 in
set_option maxHeartbeats 4000000 in
theorem areB_any (v0 : Value) (n : Nat) (bs : Nat → Int) (w : World) (hL : IL v0 n bs w) (hn : n ≤ 4398046511104) (r : Bool) (hr : r = true ↔ rbs n bs) : Calls Tryd.prog 65 #[v0] w fun e w' => e = .returned (.bool r) ∧ Ext w w' := by
  obtain ⟨o, cap, rfl⟩ := hL.form
  have hmm := @run_makeMap Tryd.prog
  have hM1 : Hid (MapAt Tryd.prog 3 w.heap.size 0 (mB bs 0) (w.alloc (.map #[] 0))) := map_made w
  have hX1 : Hid (Ext w (w.alloc (.map #[] 0))) := (Below.refl _ _).alloc (Nat.le_refl _) _
  replace hL := hideit hL
  replace hr := hideit hr
  go_enter Tryd.func65, Tryd.ntmps65
  go_upto_region 1 with (fail)
  refine wp_region_lit ?_
  refine wpList_to rfl (.map (some w.heap.size)) (w.alloc (.map #[] 0)) (by simp [go_sem, hmm]) ?_
  simp only [zp0, zp1, zp2, zp3]
  refine wpList_run rfl (.map (some w.heap.size)) (by simp [go_sem]) ?_
  simp only [zp0, zp1, zp2, zp3]
  clear hmm
  generalize w.alloc (.map #[] 0) = w1 at *
  obtain ⟨mb, hmb⟩ : ∃ mb, mb = w.heap.size := ⟨_, rfl⟩
  rw [← hmb] at hM1 ⊢
  replace hmb := hideit hmb
  go_wp2
  go_loopw [5, 6, 7, 11] (fun _ _ _ iv X => ∃ k : Nat, k ≤ n ∧ iv = .int .i64 (k : Int) ∧ MapAt Tryd.prog 3 mb k (mB bs k) X ∧ rbs k bs ∧ Ext w X) (fun _ _ _ iv _ => 5000000000000 - (intOf iv).toNat)
  case atStart => exact ⟨0, Nat.zero_le _, rfl, hM1.out, fun i hi => absurd hi (Nat.not_lt_zero _), hX1.out⟩
  case round =>
    obtain ⟨k, hk, rfl, hM, hB, hE⟩ := hrel
    clear hM1 hX1
    by_cases hlt : k < n
    · have k0 : (0 : Int) ≤ (k : Int) := by omega
      have k1 : (k : Int) < (n : Int) := by omega
      obtain ⟨a, rfl, ec⟩ : ∃ a, o = some a ∧ wr.cell? (a.add k) = some (.int .i64 (bs k)) := by
        rcases (hL.out.ext hE).1 with ⟨_, h2⟩ | ⟨a, cap', h1, _, h3⟩
        · omega
        · injection h1 with e1 _ _
          exact ⟨a, e1, h3.1 k hlt⟩
      have hki := hL.out.2 k hlt
      have hlk := hM.lookOk (t := 127) Tryd.underlying3 Tryd.underlying127 (zero103 wr) hki
      rw [mB_get] at hlk
      have hX2 : Ext wr (wr.alloc (.cells #[] 128)) := (Below.refl _ _).alloc (Nat.le_refl _) _
      have hM2 : MapAt Tryd.prog 3 mb k (mB bs k) (wr.alloc (.cells #[] 128)) := hM.same (Below.block hX2 _ hM.lt)
      have hE2 := Ext.trans hE hX2
      obtain ⟨tw, htw⟩ : ∃ tw, tw = (mB bs k (bs k)).isSome := ⟨_, rfl⟩
      rw [← htw] at hlk
      have htw2 : tw = true ↔ ∃ j, j < k ∧ bs j = bs k := by rw [htw]; exact mB_some bs k (bs k)
      replace htw2 := hideit htw2
      clear htw
      replace hB := hideit hB
      go_upto_region 3 with (fail)
      refine wp_region_lit ?_
      refine wpList_run rfl (.bool true) (by simp [go_sem, k1]) ?_
      simp only [zp0, zp1, zp2, zp3]
      go_upto_region 4 with (fail)
      refine wp_region_lit ?_
      refine wpList_run rfl (.pointer (some (a.add k))) (by simp [go_sem, k1]) ?_
      simp only [zp0, zp1, zp2, zp3]
      refine wpList_run rfl (.int .i64 (bs k)) (by simp [go_sem, ec]) ?_
      simp only [zp0, zp1, zp2, zp3]
      refine wpList_run rfl (.int .i64 (bs k)) (by simp [go_sem]) ?_
      simp only [zp0, zp1, zp2, zp3]
      clear ec
      go_upto_region 5 with (fail)
      refine wp_region_lit ?_
      refine wpList_run rfl (.map (some mb)) (by simp [go_sem]) ?_
      simp only [zp0, zp1, zp2, zp3]
      refine wpList_run rfl (.int .i64 (bs k)) (by simp [go_sem]) ?_
      simp only [zp0, zp1, zp2, zp3]
      refine wpList_run rfl (.tuple #[.agg #[], .bool tw]) (exec_look (.tmp 16) (.tmp 17) rfl rfl rfl hlk) ?_
      simp only [zp0, zp1, zp2, zp3]
      refine wpList_run rfl (.tuple #[.agg #[], .bool tw]) (by simp [go_sem]) ?_
      simp only [zp0, zp1, zp2, zp3]
      refine wpList_run rfl (.agg #[]) (by simp [go_sem]) ?_
      simp only [zp0, zp1, zp2, zp3]
      refine wpList_run rfl (.bool tw) (by simp [go_sem]) ?_
      simp only [zp0, zp1, zp2, zp3]
      refine wpList_to rfl (.pointer (some ⟨wr.heap.size, 0, none⟩)) (wr.alloc (.cells #[] 128)) (alloc103 rfl) ?_
      simp only [zp0, zp1, zp2, zp3]
      refine wpList_store_mid rfl 128 (.tmp 6) (.tmp 19) rfl wr.heap.size 0 #[] rfl rfl (fun j hj => by simp at hj) info103 (by simp) ?_
      rw [show (wr.alloc (.cells #[] 128)).setCells wr.heap.size 0 (#[] : Array Value).toList = wr.alloc (.cells #[] 128) from rfl]
      generalize wr.alloc (.cells #[] 128) = x2 at *
      simp only [Act.put]
      clear hlk hX2 hM hE
      refine wpList_run rfl (.bool tw) (by simp [go_sem]) ?_
      simp only [zp0, zp1, zp2, zp3]
      replace hM2 := hideit hM2
      replace hE2 := hideit hE2
      have hno : ¬ (tw = false ∧ okB (bs k)) → Hid (¬ rbs n bs) := fun h9 H => h9 (by
        have h8 := H k hlt
        refine ⟨?_, h8.1⟩
        cases tw with
        | false => rfl
        | true =>
          obtain ⟨j, hj, e⟩ := htw2.out.1 rfl
          exact absurd e (h8.2 j hj))
      cases tw with
      | true =>
        have hbad := hno (fun h => by cases h.1)
        obtain rfl : r = false := by
          cases r with
          | false => rfl
          | true => exact absurd (hr.out.1 rfl) hbad.out
        clear hno
        go_upto_region 6 with (fail)
        refine wp_region_lit ?_
        refine wpList_run rfl (.bool true) (by simp [go_sem]) ?_
        simp only [zp0, zp1, zp2, zp3]
        refine wpList_run rfl (.bool true) (by simp [go_sem]) ?_
        simp only [zp0, zp1, zp2, zp3]
        refine wpList_skip rfl ?_
        simp only [zp0, zp1, zp2, zp3]
        refine wpList_skip rfl ?_
        simp only [zp0, zp1, zp2, zp3]
        refine wpList_run rfl (.bool true) (by simp [go_sem]) ?_
        simp only [zp0, zp1, zp2, zp3]
        refine wpList_run rfl (.bool true) (by simp [go_sem]) ?_
        simp only [zp0, zp1, zp2, zp3]
        refine wpList_skip rfl ?_
        simp only [zp0, zp1, zp2, zp3]
        refine wpList_skip rfl ?_
        simp only [zp0, zp1, zp2, zp3]
        refine wpList_run rfl (.bool true) (by simp [go_sem]) ?_
        simp only [zp0, zp1, zp2, zp3]
        go_wp2
        go_ret
        exact ⟨rfl, hE2.out⟩
      | false =>
        by_cases hb0 : bs k < 0
        · have hbad := hno (fun h => by have := h.2.1; omega)
          obtain rfl : r = false := by
            cases r with
            | false => rfl
            | true => exact absurd (hr.out.1 rfl) hbad.out
          clear hno
          go_upto_region 6 with (fail)
          refine wp_region_lit ?_
          refine wpList_run rfl (.bool false) (by simp [go_sem]) ?_
          simp only [zp0, zp1, zp2, zp3]
          refine wpList_run rfl (.bool false) (by simp [go_sem]) ?_
          simp only [zp0, zp1, zp2, zp3]
          refine wpList_runW rfl (.int .i64 (bs k)) (by simp [go_sem]) ?_
          simp only [zp0, zp1, zp2, zp3]
          refine wpList_runW rfl (.bool true) (by simp [go_sem, hb0]) ?_
          simp only [zp0, zp1, zp2, zp3]
          refine wpList_run rfl (.bool true) (by simp [go_sem]) ?_
          simp only [zp0, zp1, zp2, zp3]
          refine wpList_run rfl (.bool true) (by simp [go_sem]) ?_
          simp only [zp0, zp1, zp2, zp3]
          refine wpList_skip rfl ?_
          simp only [zp0, zp1, zp2, zp3]
          refine wpList_skip rfl ?_
          simp only [zp0, zp1, zp2, zp3]
          refine wpList_run rfl (.bool true) (by simp [go_sem]) ?_
          simp only [zp0, zp1, zp2, zp3]
          go_wp2
          go_ret
          exact ⟨rfl, hE2.out⟩
        · by_cases hb1 : 4096 ≤ bs k
          · have hbad := hno (fun h => by have := h.2.2; omega)
            obtain rfl : r = false := by
              cases r with
              | false => rfl
              | true => exact absurd (hr.out.1 rfl) hbad.out
            clear hno
            go_upto_region 6 with (fail)
            refine wp_region_lit ?_
            refine wpList_run rfl (.bool false) (by simp [go_sem]) ?_
            simp only [zp0, zp1, zp2, zp3]
            refine wpList_run rfl (.bool false) (by simp [go_sem]) ?_
            simp only [zp0, zp1, zp2, zp3]
            refine wpList_runW rfl (.int .i64 (bs k)) (by simp [go_sem]) ?_
            simp only [zp0, zp1, zp2, zp3]
            refine wpList_runW rfl (.bool false) (by simp [go_sem, hb0]) ?_
            simp only [zp0, zp1, zp2, zp3]
            refine wpList_run rfl (.bool false) (by simp [go_sem]) ?_
            simp only [zp0, zp1, zp2, zp3]
            refine wpList_run rfl (.bool false) (by simp [go_sem]) ?_
            simp only [zp0, zp1, zp2, zp3]
            refine wpList_runW rfl (.int .i64 (bs k)) (by simp [go_sem]) ?_
            simp only [zp0, zp1, zp2, zp3]
            refine wpList_runW rfl (.bool true) (by simp [go_sem, hb1]) ?_
            simp only [zp0, zp1, zp2, zp3]
            refine wpList_run rfl (.bool true) (by simp [go_sem]) ?_
            simp only [zp0, zp1, zp2, zp3]
            go_wp2
            go_ret
            exact ⟨rfl, hE2.out⟩
          · obtain ⟨x3, hr3, hM3, hg3, _⟩ := hM2.out.put (t := 127) Tryd.underlying3 Tryd.underlying127 (by unfold maxLen; omega) hki (.agg #[])
            have hE3 : Hid (Ext w x3) := Below.trans hE2.out (below_grown (Below.size hE2.out) hg3 fun q hq => by injection hq with hq; rw [← hq, hmb.out]; exact Nat.le_refl _)
            have hM4 : Hid (MapAt Tryd.prog 3 mb (k + 1) (mB bs (k + 1)) x3) := hM3
            have hB4 : Hid (rbs (k + 1) bs) := fun i hi => by
              by_cases e : i = k
              · subst e
                refine ⟨⟨by omega, by omega⟩, fun j hj e => ?_⟩
                have := htw2.out.2 ⟨j, hj, e⟩
                cases this
              · exact hB.out i (by omega)
            clear hno hM3 hg3 hM2 hE2 hB htw2
            go_upto_region 6 with (fail)
            refine wp_region_lit ?_
            refine wpList_run rfl (.bool false) (by simp [go_sem]) ?_
            simp only [zp0, zp1, zp2, zp3]
            refine wpList_run rfl (.bool false) (by simp [go_sem]) ?_
            simp only [zp0, zp1, zp2, zp3]
            refine wpList_runW rfl (.int .i64 (bs k)) (by simp [go_sem]) ?_
            simp only [zp0, zp1, zp2, zp3]
            refine wpList_runW rfl (.bool false) (by simp [go_sem, hb0]) ?_
            simp only [zp0, zp1, zp2, zp3]
            refine wpList_run rfl (.bool false) (by simp [go_sem]) ?_
            simp only [zp0, zp1, zp2, zp3]
            refine wpList_run rfl (.bool false) (by simp [go_sem]) ?_
            simp only [zp0, zp1, zp2, zp3]
            refine wpList_runW rfl (.int .i64 (bs k)) (by simp [go_sem]) ?_
            simp only [zp0, zp1, zp2, zp3]
            refine wpList_runW rfl (.bool false) (by simp [go_sem, hb1]) ?_
            simp only [zp0, zp1, zp2, zp3]
            refine wpList_run rfl (.bool false) (by simp [go_sem]) ?_
            simp only [zp0, zp1, zp2, zp3]
            go_upto_region 8 with (fail)
            refine wp_region_lit ?_
            refine wpList_run rfl (.map (some mb)) (by simp [go_sem]) ?_
            simp only [zp0, zp1, zp2, zp3]
            refine wpList_run rfl (.int .i64 (bs k)) (by simp [go_sem]) ?_
            simp only [zp0, zp1, zp2, zp3]
            refine wpList_run rfl (.agg #[]) (by simp [go_sem]) ?_
            simp only [zp0, zp1, zp2, zp3]
            refine wpList_st9 rfl x3 (exec_mput (.tmp 30) (.tmp 31) (.tmp 32) rfl rfl rfl rfl hr3) ?_
            simp only [Act.put]
            clear hr3
            go_wp2
            exact ⟨⟨k + 1, by omega, by go_num, hM4.out, hB4.out, hE3.out⟩, by simp [intOf]; omega⟩
    · obtain rfl : k = n := by omega
      have k1 : ¬ (k : Int) < (k : Int) := by omega
      obtain rfl : r = true := hr.out.2 hB
      replace hE := hideit hE
      clear hM hB
      go_wp2
      go_ret
      exact ⟨rfl, hE.out⟩
def mayP (x t : BitVec 64) (n : Nat) (bs : Nat → Int) : Prop := x ≠ 0#64 ∧ 1 ≤ n ∧ n ≤ 64 ∧ t >>> n = 0#64 ∧ rbs n bs
theorem u0 {x : BitVec 64} : x.toNat = 0 ↔ x = 0#64 := by
  constructor
  · intro h
    exact BitVec.eq_of_toNat_eq h
  · rintro rfl
    rfl
set_option maxRecDepth 20000 in
set_option maxHeartbeats 4000000 in
theorem may_any (x t : BitVec 64) (v0 : Value) (n : Nat) (bs : Nat → Int) (w : World) (hL : IL v0 n bs w) (hn : n ≤ 4398046511104) (r : Bool) (hr : r = true ↔ mayP x t n bs) : Calls Tryd.prog 42 #[plA x t v0] w fun e w' => e = .returned (.bool r) ∧ Ext w w' := by
  obtain ⟨o, cap, rfl⟩ := hL.form
  have hR1 : RowAt w.heap.size 3 (plV x t (.slice o n cap)) (w.alloc (.cells #[.int .u64 (x.toNat : Int), .int .u64 (t.toNat : Int), .slice o n cap] 76)) := RowAt.newOf w 3 _ 76 _ fun j hj => by rcases (by omega : j = 0 ∨ j = 1 ∨ j = 2) with rfl | rfl | rfl <;> rfl
  have hX1 : Hid (Ext w (w.alloc (.cells #[.int .u64 (x.toNat : Int), .int .u64 (t.toNat : Int), .slice o n cap] 76))) := (Below.refl _ _).alloc (Nat.le_refl _) _
  replace hL := hideit hL
  replace hr := hideit hr
  unfold plA
  go_enter Tryd.func42, Tryd.ntmps42
  go_upto_region 0 with (fail)
  refine wp_region_lit ?_
  refine wpList_to rfl (.pointer (some ⟨w.heap.size, 0, none⟩)) (w.alloc (.cells #[.int .u64 (x.toNat : Int), .int .u64 (t.toNat : Int), .slice o n cap] 76)) (by simp [go_sem]) ?_
  simp only [zp0, zp1, zp2, zp3]
  refine wpList_run rfl (.bool false) (by simp [go_sem]) ?_
  simp only [zp0, zp1, zp2, zp3]
  generalize w.alloc (.cells #[.int .u64 (x.toNat : Int), .int .u64 (t.toNat : Int), .slice o n cap] 76) = w1 at *
  generalize hcc : w.heap.size = c at hR1 ⊢
  clear hcc
  have e0 : w1.cell? ⟨c, 0, none⟩ = some (.int .u64 (x.toNat : Int)) := hR1.1 0 (by decide)
  have e1 : w1.cell? ⟨c, 1, none⟩ = some (.int .u64 (t.toNat : Int)) := hR1.1 1 (by decide)
  have e2 : w1.cell? ⟨c, 2, none⟩ = some (.slice o n cap) := hR1.1 2 (by decide)
  clear hR1
  go_upto_region 1 with (fail)
  refine wp_region_lit ?_
  refine wpList_run rfl (.pointer (some ⟨c, 2, none⟩)) (by simp [go_sem]) ?_
  simp only [zp0, zp1, zp2, zp3]
  refine wpList_run rfl (.slice o n cap) (by simp [go_sem, e2]) ?_
  simp only [zp0, zp1, zp2, zp3]
  refine wpList_run rfl (.int .i64 (n : Int)) (by simp [go_sem]) ?_
  simp only [zp0, zp1, zp2, zp3]
  refine wpList_run rfl (.int .i64 (n : Int)) (by simp [go_sem]) ?_
  simp only [zp0, zp1, zp2, zp3]
  go_upto_region 2 with (fail)
  refine wp_region_lit ?_
  by_cases hx : x = 0#64
  · have hx0 : x.toNat = 0 := u0.2 hx
    replace hx : ¬ x ≠ 0#64 := fun h => h hx
    obtain rfl : r = false := by
      cases r with
      | false => rfl
      | true => exact absurd (hr.out.1 rfl) (fun h => hx h.1)
    refine wpList_run rfl (.pointer (some ⟨c, 0, none⟩)) (by simp [go_sem]) ?_
    simp only [zp0, zp1, zp2, zp3]
    refine wpList_run rfl (.int .u64 (x.toNat : Int)) (by simp [go_sem, e0]) ?_
    simp only [zp0, zp1, zp2, zp3]
    refine wpList_run rfl (.bool false) (by simp [go_sem, hx0]) ?_
    simp only [zp0, zp1, zp2, zp3]
    refine wpList_run rfl (.bool false) (by simp [go_sem]) ?_
    simp only [zp0, zp1, zp2, zp3]
    refine wpList_skip rfl ?_
    simp only [zp0, zp1, zp2, zp3]
    refine wpList_skip rfl ?_
    simp only [zp0, zp1, zp2, zp3]
    refine wpList_run rfl (.bool false) (by simp [go_sem]) ?_
    simp only [zp0, zp1, zp2, zp3]
    refine wpList_run rfl (.bool false) (by simp [go_sem]) ?_
    simp only [zp0, zp1, zp2, zp3]
    refine wpList_skip rfl ?_
    simp only [zp0, zp1, zp2, zp3]
    refine wpList_skip rfl ?_
    simp only [zp0, zp1, zp2, zp3]
    refine wpList_run rfl (.bool false) (by simp [go_sem]) ?_
    simp only [zp0, zp1, zp2, zp3]
    refine wpList_run rfl (.bool false) (by simp [go_sem]) ?_
    simp only [zp0, zp1, zp2, zp3]
    refine wpList_skip rfl ?_
    simp only [zp0, zp1, zp2, zp3]
    refine wpList_skip rfl ?_
    simp only [zp0, zp1, zp2, zp3]
    refine wpList_skip rfl ?_
    simp only [zp0, zp1, zp2, zp3]
    refine wpList_skip rfl ?_
    simp only [zp0, zp1, zp2, zp3]
    refine wpList_skip rfl ?_
    simp only [zp0, zp1, zp2, zp3]
    refine wpList_run rfl (.bool false) (by simp [go_sem]) ?_
    simp only [zp0, zp1, zp2, zp3]
    refine wpList_run rfl (.bool false) (by simp [go_sem]) ?_
    simp only [zp0, zp1, zp2, zp3]
    refine wpList_skip rfl ?_
    simp only [zp0, zp1, zp2, zp3]
    refine wpList_skip rfl ?_
    simp only [zp0, zp1, zp2, zp3]
    refine wpList_skip rfl ?_
    simp only [zp0, zp1, zp2, zp3]
    refine wpList_run rfl (.bool false) (by simp [go_sem]) ?_
    simp only [zp0, zp1, zp2, zp3]
    refine wpList_run rfl (.bool false) (by simp [go_sem]) ?_
    simp only [zp0, zp1, zp2, zp3]
    clear e0 e1 e2
    go_wp2
    go_ret
    exact ⟨rfl, hX1.out⟩
  · have hx0 : ¬ x.toNat = 0 := fun h => hx (u0.1 h)
    by_cases hn1 : 1 ≤ n
    · have i1 : (1 : Int) ≤ (n : Int) := by omega
      by_cases hn6 : n ≤ 64
      · have i6 : (n : Int) ≤ 64 := by omega
        have hs := shr_nat t n
        rw [Nat.min_eq_left hn6] at hs
        obtain ⟨s, hse⟩ : ∃ s, s = t >>> n := ⟨_, rfl⟩
        rw [← hse] at hs
        by_cases ht : t >>> n = 0#64
        · have hs0 : s.toNat = 0 := u0.2 (by rw [hse]; exact ht)
          have ka := hideit (areB_any (.slice o n cap) n bs w1 (hL.out.ext hX1.out) hn r (by
            rw [hr.out]
            exact ⟨fun h => h.2.2.2.2, fun h => ⟨hx, hn1, hn6, ht, h⟩⟩))
          clear hse hr hL
          refine wpList_run rfl (.pointer (some ⟨c, 0, none⟩)) (by simp [go_sem]) ?_
          simp only [zp0, zp1, zp2, zp3]
          refine wpList_run rfl (.int .u64 (x.toNat : Int)) (by simp [go_sem, e0]) ?_
          simp only [zp0, zp1, zp2, zp3]
          refine wpList_run rfl (.bool true) (by simp [go_sem, hx0]) ?_
          simp only [zp0, zp1, zp2, zp3]
          refine wpList_run rfl (.bool true) (by simp [go_sem]) ?_
          simp only [zp0, zp1, zp2, zp3]
          refine wpList_runW rfl (.int .i64 (n : Int)) (by simp [go_sem]) ?_
          simp only [zp0, zp1, zp2, zp3]
          refine wpList_runW rfl (.bool true) (by simp [go_sem, i1]) ?_
          simp only [zp0, zp1, zp2, zp3]
          refine wpList_run rfl (.bool true) (by simp [go_sem]) ?_
          simp only [zp0, zp1, zp2, zp3]
          refine wpList_run rfl (.bool true) (by simp [go_sem]) ?_
          simp only [zp0, zp1, zp2, zp3]
          refine wpList_runW rfl (.int .i64 (n : Int)) (by simp [go_sem]) ?_
          simp only [zp0, zp1, zp2, zp3]
          refine wpList_runW rfl (.bool true) (by simp [go_sem, i6]) ?_
          simp only [zp0, zp1, zp2, zp3]
          refine wpList_run rfl (.bool true) (by simp [go_sem]) ?_
          simp only [zp0, zp1, zp2, zp3]
          refine wpList_run rfl (.bool true) (by simp [go_sem]) ?_
          simp only [zp0, zp1, zp2, zp3]
          refine wpList_runW rfl (.pointer (some ⟨c, 1, none⟩)) (by simp [go_sem]) ?_
          simp only [zp0, zp1, zp2, zp3]
          refine wpList_runW rfl (.int .u64 (t.toNat : Int)) (by simp [go_sem, e1]) ?_
          simp only [zp0, zp1, zp2, zp3]
          refine wpList_runW rfl (.int .i64 (n : Int)) (by simp [go_sem]) ?_
          simp only [zp0, zp1, zp2, zp3]
          refine wpList_runW rfl (.int .u64 (s.toNat : Int)) (by simp [go_sem, hs]) ?_
          simp only [zp0, zp1, zp2, zp3]
          refine wpList_runW rfl (.bool true) (by simp [go_sem, hs0]) ?_
          simp only [zp0, zp1, zp2, zp3]
          refine wpList_run rfl (.bool true) (by simp [go_sem]) ?_
          simp only [zp0, zp1, zp2, zp3]
          refine wpList_run rfl (.bool true) (by simp [go_sem]) ?_
          simp only [zp0, zp1, zp2, zp3]
          refine wpList_runW rfl (.pointer (some ⟨c, 2, none⟩)) (by simp [go_sem]) ?_
          simp only [zp0, zp1, zp2, zp3]
          refine wpList_runW rfl (.slice o n cap) (by simp [go_sem, e2]) ?_
          simp only [zp0, zp1, zp2, zp3]
          refine wpList_callW rfl (by simp [go_sem]) ((ka.out).mono ?_)
          rintro e w9 ⟨rfl, hX9⟩
          refine ⟨_, rfl, ?_⟩
          simp only [zp0, zp1, zp2, zp3]
          refine wpList_run rfl (.bool r) (by simp [go_sem]) ?_
          simp only [zp0, zp1, zp2, zp3]
          refine wpList_run rfl (.bool r) (by simp [go_sem]) ?_
          simp only [zp0, zp1, zp2, zp3]
          have hE9 := hideit (Ext.trans hX1.out hX9)
          clear ka hX9
          clear e0 e1 e2
          go_wp2
          go_ret
          exact ⟨rfl, hE9.out⟩
        · have hs0 : ¬ s.toNat = 0 := fun h => ht (by rw [← hse]; exact u0.1 h)
          clear hse
          obtain rfl : r = false := by
            cases r with
            | false => rfl
            | true => exact absurd (hr.out.1 rfl) (fun h => ht h.2.2.2.1)
          refine wpList_run rfl (.pointer (some ⟨c, 0, none⟩)) (by simp [go_sem]) ?_
          simp only [zp0, zp1, zp2, zp3]
          refine wpList_run rfl (.int .u64 (x.toNat : Int)) (by simp [go_sem, e0]) ?_
          simp only [zp0, zp1, zp2, zp3]
          refine wpList_run rfl (.bool true) (by simp [go_sem, hx0]) ?_
          simp only [zp0, zp1, zp2, zp3]
          refine wpList_run rfl (.bool true) (by simp [go_sem]) ?_
          simp only [zp0, zp1, zp2, zp3]
          refine wpList_runW rfl (.int .i64 (n : Int)) (by simp [go_sem]) ?_
          simp only [zp0, zp1, zp2, zp3]
          refine wpList_runW rfl (.bool true) (by simp [go_sem, i1]) ?_
          simp only [zp0, zp1, zp2, zp3]
          refine wpList_run rfl (.bool true) (by simp [go_sem]) ?_
          simp only [zp0, zp1, zp2, zp3]
          refine wpList_run rfl (.bool true) (by simp [go_sem]) ?_
          simp only [zp0, zp1, zp2, zp3]
          refine wpList_runW rfl (.int .i64 (n : Int)) (by simp [go_sem]) ?_
          simp only [zp0, zp1, zp2, zp3]
          refine wpList_runW rfl (.bool true) (by simp [go_sem, i6]) ?_
          simp only [zp0, zp1, zp2, zp3]
          refine wpList_run rfl (.bool true) (by simp [go_sem]) ?_
          simp only [zp0, zp1, zp2, zp3]
          refine wpList_run rfl (.bool true) (by simp [go_sem]) ?_
          simp only [zp0, zp1, zp2, zp3]
          refine wpList_runW rfl (.pointer (some ⟨c, 1, none⟩)) (by simp [go_sem]) ?_
          simp only [zp0, zp1, zp2, zp3]
          refine wpList_runW rfl (.int .u64 (t.toNat : Int)) (by simp [go_sem, e1]) ?_
          simp only [zp0, zp1, zp2, zp3]
          refine wpList_runW rfl (.int .i64 (n : Int)) (by simp [go_sem]) ?_
          simp only [zp0, zp1, zp2, zp3]
          refine wpList_runW rfl (.int .u64 (s.toNat : Int)) (by simp [go_sem, hs]) ?_
          simp only [zp0, zp1, zp2, zp3]
          refine wpList_runW rfl (.bool false) (by simp [go_sem, hs0]) ?_
          simp only [zp0, zp1, zp2, zp3]
          refine wpList_run rfl (.bool false) (by simp [go_sem]) ?_
          simp only [zp0, zp1, zp2, zp3]
          refine wpList_run rfl (.bool false) (by simp [go_sem]) ?_
          simp only [zp0, zp1, zp2, zp3]
          refine wpList_skip rfl ?_
          simp only [zp0, zp1, zp2, zp3]
          refine wpList_skip rfl ?_
          simp only [zp0, zp1, zp2, zp3]
          refine wpList_skip rfl ?_
          simp only [zp0, zp1, zp2, zp3]
          refine wpList_run rfl (.bool false) (by simp [go_sem]) ?_
          simp only [zp0, zp1, zp2, zp3]
          refine wpList_run rfl (.bool false) (by simp [go_sem]) ?_
          simp only [zp0, zp1, zp2, zp3]
          clear e0 e1 e2
          go_wp2
          go_ret
          exact ⟨rfl, hX1.out⟩
      · have i6 : ¬ (n : Int) ≤ 64 := by omega
        obtain rfl : r = false := by
          cases r with
          | false => rfl
          | true => exact absurd (hr.out.1 rfl) (fun h => hn6 h.2.2.1)
        refine wpList_run rfl (.pointer (some ⟨c, 0, none⟩)) (by simp [go_sem]) ?_
        simp only [zp0, zp1, zp2, zp3]
        refine wpList_run rfl (.int .u64 (x.toNat : Int)) (by simp [go_sem, e0]) ?_
        simp only [zp0, zp1, zp2, zp3]
        refine wpList_run rfl (.bool true) (by simp [go_sem, hx0]) ?_
        simp only [zp0, zp1, zp2, zp3]
        refine wpList_run rfl (.bool true) (by simp [go_sem]) ?_
        simp only [zp0, zp1, zp2, zp3]
        refine wpList_runW rfl (.int .i64 (n : Int)) (by simp [go_sem]) ?_
        simp only [zp0, zp1, zp2, zp3]
        refine wpList_runW rfl (.bool true) (by simp [go_sem, i1]) ?_
        simp only [zp0, zp1, zp2, zp3]
        refine wpList_run rfl (.bool true) (by simp [go_sem]) ?_
        simp only [zp0, zp1, zp2, zp3]
        refine wpList_run rfl (.bool true) (by simp [go_sem]) ?_
        simp only [zp0, zp1, zp2, zp3]
        refine wpList_runW rfl (.int .i64 (n : Int)) (by simp [go_sem]) ?_
        simp only [zp0, zp1, zp2, zp3]
        refine wpList_runW rfl (.bool false) (by simp [go_sem, i6]) ?_
        simp only [zp0, zp1, zp2, zp3]
        refine wpList_run rfl (.bool false) (by simp [go_sem]) ?_
        simp only [zp0, zp1, zp2, zp3]
        refine wpList_run rfl (.bool false) (by simp [go_sem]) ?_
        simp only [zp0, zp1, zp2, zp3]
        refine wpList_skip rfl ?_
        simp only [zp0, zp1, zp2, zp3]
        refine wpList_skip rfl ?_
        simp only [zp0, zp1, zp2, zp3]
        refine wpList_skip rfl ?_
        simp only [zp0, zp1, zp2, zp3]
        refine wpList_skip rfl ?_
        simp only [zp0, zp1, zp2, zp3]
        refine wpList_skip rfl ?_
        simp only [zp0, zp1, zp2, zp3]
        refine wpList_run rfl (.bool false) (by simp [go_sem]) ?_
        simp only [zp0, zp1, zp2, zp3]
        refine wpList_run rfl (.bool false) (by simp [go_sem]) ?_
        simp only [zp0, zp1, zp2, zp3]
        refine wpList_skip rfl ?_
        simp only [zp0, zp1, zp2, zp3]
        refine wpList_skip rfl ?_
        simp only [zp0, zp1, zp2, zp3]
        refine wpList_skip rfl ?_
        simp only [zp0, zp1, zp2, zp3]
        refine wpList_run rfl (.bool false) (by simp [go_sem]) ?_
        simp only [zp0, zp1, zp2, zp3]
        refine wpList_run rfl (.bool false) (by simp [go_sem]) ?_
        simp only [zp0, zp1, zp2, zp3]
        clear e0 e1 e2
        go_wp2
        go_ret
        exact ⟨rfl, hX1.out⟩
    · have i1 : ¬ (1 : Int) ≤ (n : Int) := by omega
      obtain rfl : r = false := by
        cases r with
        | false => rfl
        | true => exact absurd (hr.out.1 rfl) (fun h => hn1 h.2.1)
      refine wpList_run rfl (.pointer (some ⟨c, 0, none⟩)) (by simp [go_sem]) ?_
      simp only [zp0, zp1, zp2, zp3]
      refine wpList_run rfl (.int .u64 (x.toNat : Int)) (by simp [go_sem, e0]) ?_
      simp only [zp0, zp1, zp2, zp3]
      refine wpList_run rfl (.bool true) (by simp [go_sem, hx0]) ?_
      simp only [zp0, zp1, zp2, zp3]
      refine wpList_run rfl (.bool true) (by simp [go_sem]) ?_
      simp only [zp0, zp1, zp2, zp3]
      refine wpList_runW rfl (.int .i64 (n : Int)) (by simp [go_sem]) ?_
      simp only [zp0, zp1, zp2, zp3]
      refine wpList_runW rfl (.bool false) (by simp [go_sem, i1]) ?_
      simp only [zp0, zp1, zp2, zp3]
      refine wpList_run rfl (.bool false) (by simp [go_sem]) ?_
      simp only [zp0, zp1, zp2, zp3]
      refine wpList_run rfl (.bool false) (by simp [go_sem]) ?_
      simp only [zp0, zp1, zp2, zp3]
      refine wpList_skip rfl ?_
      simp only [zp0, zp1, zp2, zp3]
      refine wpList_skip rfl ?_
      simp only [zp0, zp1, zp2, zp3]
      refine wpList_run rfl (.bool false) (by simp [go_sem]) ?_
      simp only [zp0, zp1, zp2, zp3]
      refine wpList_run rfl (.bool false) (by simp [go_sem]) ?_
      simp only [zp0, zp1, zp2, zp3]
      refine wpList_skip rfl ?_
      simp only [zp0, zp1, zp2, zp3]
      refine wpList_skip rfl ?_
      simp only [zp0, zp1, zp2, zp3]
      refine wpList_skip rfl ?_
      simp only [zp0, zp1, zp2, zp3]
      refine wpList_skip rfl ?_
      simp only [zp0, zp1, zp2, zp3]
      refine wpList_skip rfl ?_
      simp only [zp0, zp1, zp2, zp3]
      refine wpList_run rfl (.bool false) (by simp [go_sem]) ?_
      simp only [zp0, zp1, zp2, zp3]
      refine wpList_run rfl (.bool false) (by simp [go_sem]) ?_
      simp only [zp0, zp1, zp2, zp3]
      refine wpList_skip rfl ?_
      simp only [zp0, zp1, zp2, zp3]
      refine wpList_skip rfl ?_
      simp only [zp0, zp1, zp2, zp3]
      refine wpList_skip rfl ?_
      simp only [zp0, zp1, zp2, zp3]
      refine wpList_run rfl (.bool false) (by simp [go_sem]) ?_
      simp only [zp0, zp1, zp2, zp3]
      refine wpList_run rfl (.bool false) (by simp [go_sem]) ?_
      simp only [zp0, zp1, zp2, zp3]
      clear e0 e1 e2
      go_wp2
      go_ret
      exact ⟨rfl, hX1.out⟩
end Go.Proofs.YtiakkclabgelfaaDoor
namespace Go.Proofs.YtiakkclabgelfaaDoor
set_option maxRecDepth 20000
open Go.RowKit Go.BigFrame
theorem wrap_u64 {x : Int} (h0 : 0 ≤ x) (h1 : x < 4294967296) : IntKind.u64.wrap x = ((BitVec.ofNat 64 x.toNat).toNat : Int) := by
  rw [IntKind.wrap_u64, BitVec.toNat_ofNat]
  omega
def bW (x : Int) : BitVec 64 := BitVec.ofNat 64 x.toNat
theorem bW_small {x : Int} (h : okB x) : (bW x).toNat / 2 ^ (8 * 4) = 0 := by
  unfold bW
  rw [BitVec.toNat_ofNat]
  have := h.1
  have := h.2
  omega
def bsF (bs : Nat → Int) (j : Nat) : BitVec 8 := byB (bW (bs (j / 4))) (j % 4)
set_option maxRecDepth 20000 in
set_option maxHeartbeats 4000000 in
theorem put54 (c size m : Nat) (f : Nat → BitVec 8) (x : Int) (w : World) (h : Wr c size m f false w) (hm : m + 4 ≤ size) (hs : size ≤ 16777216) (hx : okB x) : Calls Tryd.prog 69 #[.pointer (some ⟨c, 0, none⟩), .int .i64 x] w fun e w' => e = .returned (.tuple #[]) ∧ Wr c size (m + 4) (catF f m (byB (bW x))) false w' ∧ Below c w w' := by
  have ku := hideit (wuint_ok c size m 4 f false (bW x) w h hm hs (by decide) (by decide) (bW_small hx))
  have hw : IntKind.u64.wrap x = ((bW x).toNat : Int) := wrap_u64 hx.1 (by have := hx.2; omega)
  generalize bW x = y at *
  clear h
  go_enter Tryd.func69, Tryd.ntmps69
  go_upto_region 0 with (fail)
  refine wp_region_lit ?_
  refine wpList_run rfl (.pointer (some ⟨c, 0, none⟩)) (by simp [go_sem]) ?_
  simp only [zp0, zp1, zp2, zp3]
  refine wpList_run rfl (.int .i64 x) (by simp [go_sem]) ?_
  simp only [zp0, zp1, zp2, zp3]
  refine wpList_run rfl (.int .u64 (y.toNat : Int)) (by simp [go_sem, hw]) ?_
  simp only [zp0, zp1, zp2, zp3]
  refine wpList_call rfl (by simp [go_sem]) ((ku.out).mono ?_)
  rintro e w1 ⟨rfl, h1, h2⟩
  refine ⟨_, rfl, ?_⟩
  simp only [zp0, zp1, zp2, zp3]
  replace h1 := hideit h1
  replace h2 := hideit h2
  clear ku
  go_wp2
  exact bodyPost_end (v := .tuple #[]) (by simp [results, Tryd.results69]) rfl ⟨rfl, h1.out, h2.out⟩
theorem put_nil (w : World) : Sem.run Tryd.prog (binOp .eql 106 (.func (.func 69) #[] #[]) .nilFunc) w = .ok (.bool false) w := by kernel_rfl
set_option maxRecDepth 20000 in
set_option maxHeartbeats 4000000 in
theorem put53 (c size m : Nat) (f : Nat → BitVec 8) (v0 : Value) (n : Nat) (bs : Nat → Int) (w0 w : World) (h : Wr c size m f false w) (hL : IL v0 n bs w0) (h0 : Ext w0 w) (hc : w0.heap.size ≤ c) (hm : m + 4 * n ≤ size) (hs : size ≤ 16777216) (hb : ∀ j, j < n → okB (bs j)) : Calls Tryd.prog 68 #[.pointer (some ⟨c, 0, none⟩), v0, .func (.func 69) #[] #[]] w fun e w' => e = .returned (.tuple #[]) ∧ Wr c size (m + 4 * n) (catF f m (bsF bs)) false w' ∧ Ext w0 w' := by
  obtain ⟨o, cap, rfl⟩ := hL.form
  have hpn := put_nil w
  replace h := hideit (h.congr (g := catF f m (bsF bs)) fun j hj => by unfold catF; rw [if_pos hj])
  replace hL := hideit hL
  replace h0 := hideit h0
  replace hb := hideit hb
  have hn : n ≤ 16777216 := by omega
  go_enter Tryd.func68, Tryd.ntmps68
  go_upto_region 0 with (fail)
  refine wp_region_lit ?_
  refine wpList_run rfl (.pointer (some ⟨c, 0, none⟩)) (by simp [go_sem]) ?_
  simp only [zp0, zp1, zp2, zp3]
  refine wpList_run rfl (.bool false) (by simp [go_sem]) ?_
  simp only [zp0, zp1, zp2, zp3]
  refine wpList_run rfl (.bool false) (by simp [go_sem]) ?_
  simp only [zp0, zp1, zp2, zp3]
  refine wpList_runW rfl (.func (.func 69) #[] #[]) (by simp [go_sem]) ?_
  simp only [zp0, zp1, zp2, zp3]
  refine wpList_runW rfl (.bool false) (by simp [go_sem, hpn]) ?_
  simp only [zp0, zp1, zp2, zp3]
  refine wpList_run rfl (.bool false) (by simp [go_sem]) ?_
  simp only [zp0, zp1, zp2, zp3]
  clear hpn
  go_wp2
  go_loopw [7, 16] (fun _ iv X => ∃ k : Nat, k ≤ n ∧ iv = .int .i64 (k : Int) ∧ Wr c size (m + 4 * k) (catF f m (bsF bs)) false X ∧ Ext w0 X) (fun _ iv _ => 20000000 - (intOf iv).toNat)
  case atStart => exact ⟨0, Nat.zero_le _, rfl, h.out, h0.out⟩
  case round =>
    obtain ⟨k, hk, rfl, hW, hE⟩ := hrel
    by_cases hlt : k < n
    · have k0 : (0 : Int) ≤ (k : Int) := by omega
      have k1 : (k : Int) < (n : Int) := by omega
      obtain ⟨a, rfl, ec⟩ : ∃ a, o = some a ∧ wr.cell? (a.add k) = some (.int .i64 (bs k)) := by
        rcases (hL.out.ext hE).1 with ⟨_, h2⟩ | ⟨a, cap', h1, _, h3⟩
        · omega
        · injection h1 with e1 _ _
          exact ⟨a, e1, h3.1 k hlt⟩
      have kp : Hid (Calls Tryd.prog 69 #[.pointer (some ⟨c, 0, none⟩), .int .i64 (bs k)] wr fun e w' => e = .returned (.tuple #[]) ∧ Wr c size (m + 4 * (k + 1)) (catF f m (bsF bs)) false w' ∧ Ext w0 w') := by
        refine (put54 c size (m + 4 * k) _ (bs k) wr hW (by omega) hs (hb.out k hlt)).mono ?_
        rintro e w9 ⟨rfl, h1, h2⟩
        refine ⟨rfl, ?_, below_ext hE hc h2⟩
        have h3 : Wr c size (m + 4 * (k + 1)) (catF (catF f m (bsF bs)) (m + 4 * k) (byB (bW (bs k)))) false w9 := h1
        refine h3.congr fun j hj => ?_
        unfold catF
        by_cases q : j < m + 4 * k
        · rw [if_pos q]
        · rw [if_neg q, if_neg (by omega)]
          unfold bsF
          rw [show (j - m) / 4 = k by omega, show (j - m) % 4 = j - (m + 4 * k) by omega]
      clear hW hE
      go_upto_region 2 with (fail)
      refine wp_region_lit ?_
      refine wpList_run rfl (.bool true) (by simp [go_sem, k1]) ?_
      simp only [zp0, zp1, zp2, zp3]
      go_upto_region 3 with (fail)
      refine wp_region_lit ?_
      refine wpList_run rfl (.pointer (some (a.add k))) (by simp [go_sem, k1]) ?_
      simp only [zp0, zp1, zp2, zp3]
      refine wpList_run rfl (.int .i64 (bs k)) (by simp [go_sem, ec]) ?_
      simp only [zp0, zp1, zp2, zp3]
      refine wpList_run rfl (.int .i64 (bs k)) (by simp [go_sem]) ?_
      simp only [zp0, zp1, zp2, zp3]
      clear ec
      go_upto_region 4 with (fail)
      refine wp_region_lit ?_
      refine wpList_run rfl (.func (.func 69) #[] #[]) (by simp [go_sem]) ?_
      simp only [zp0, zp1, zp2, zp3]
      refine wpList_run rfl (.pointer (some ⟨c, 0, none⟩)) (by simp [go_sem]) ?_
      simp only [zp0, zp1, zp2, zp3]
      refine wpList_run rfl (.int .i64 (bs k)) (by simp [go_sem]) ?_
      simp only [zp0, zp1, zp2, zp3]
      refine wpList_call rfl (by simp [go_sem]) ((kp.out).mono ?_)
      rintro e w9 ⟨rfl, h1, h2⟩
      refine ⟨_, rfl, ?_⟩
      simp only [zp0, zp1, zp2, zp3]
      clear kp
      go_wp2
      exact ⟨⟨k + 1, by omega, by go_num, h1, h2⟩, by simp [intOf]; omega⟩
    · obtain rfl : k = n := by omega
      have k1 : ¬ (k : Int) < (k : Int) := by omega
      replace hW := hideit hW
      replace hE := hideit hE
      go_wp2
      exact bodyPost_end (v := .tuple #[]) (by simp [results, Tryd.results68]) rfl ⟨rfl, hW.out, hE.out⟩
end Go.Proofs.YtiakkclabgelfaaDoor
