/-
  Are lists of blocks the same? Slices of the call's own whose elements have K cells: how they grow by append, how they lie; no word of the program.
-/
import Derived.Test.YtedgopionpdfeaaDoorQ29
import Derived.Test.YtedgopionpdfeaaDoorQ11
namespace Go.Proofs.YtedgopionpdfeaaDoor
open Go.RowKit Go.BigFrame
theorem convP (v : Value) (l : Nat) (b : Nat → BitVec 8) (w : World) (h : PV v l b w) : (convert 34 9 v).run Tryd.prog w = .ok (.string (bstr l fun j => ((b j).toNat : Int))) w := by
  by_cases hl : 0 < l
  · exact convV v l b w (h.bv hl)
  · obtain rfl : l = 0 := by omega
    rcases h with ⟨rfl, _⟩ | ⟨a, cap, rfl, h2, h3⟩
    · exact convV _ 0 b w (.inl ⟨rfl, rfl⟩)
    · rw [run_convert_bytes_string w 34 9 5 _ _ _ Tryd.underlying34 Tryd.underlying5 Tryd.underlying9]
      refine run_bytesToString w _ 0 cap [] ?_
      rfl
set_option maxRecDepth 20000 in
set_option maxHeartbeats 4000000 in
theorem equal_pv (u v : Value) (n m : Nat) (f g : Nat → BitVec 8) (w : World) (hu : PV u n f w) (hv : PV v m g w) : Calls Tryd.prog 36 #[u, v] w fun e w' => e = .returned (.bool (eqB n m f g)) ∧ w' = w := by
  have ca := convP u n f w hu
  have cb := convP v m g w hv
  have ce := eqB_iff n m f g
  generalize (bstr n fun j => ((f j).toNat : Int)) = a at *
  generalize (bstr m fun j => ((g j).toNat : Int)) = b at *
  generalize eqB n m f g = r at *
  clear hu hv
  cases r with
  | true =>
    have hab := ce.2 rfl
    subst hab
    clear ce
    go_enter Tryd.func36, Tryd.ntmps36
    go_upto_region 1 with (fail)
    refine wp_region_lit ?_
    refine wpList_run rfl (u) (by simp [go_sem]) ?_
    simp only [Act.put, List.setIfInBounds_toArray, List.set_cons_zero, List.set_cons_succ]
    refine wpList_run rfl (.string a) (by simp [go_sem, ca]) ?_
    simp only [Act.put, List.setIfInBounds_toArray, List.set_cons_zero, List.set_cons_succ]
    refine wpList_run rfl (v) (by simp [go_sem]) ?_
    simp only [Act.put, List.setIfInBounds_toArray, List.set_cons_zero, List.set_cons_succ]
    refine wpList_run rfl (.string a) (by simp [go_sem, cb]) ?_
    simp only [Act.put, List.setIfInBounds_toArray, List.set_cons_zero, List.set_cons_succ]
    refine wpList_run rfl (.bool true) (by simp [go_sem]) ?_
    simp only [Act.put, List.setIfInBounds_toArray, List.set_cons_zero, List.set_cons_succ]
    refine wpList_run rfl (.bool true) (by simp [go_sem]) ?_
    simp only [Act.put, List.setIfInBounds_toArray, List.set_cons_zero, List.set_cons_succ]
    clear ca cb
    go_wp2
    go_ret
    exact ⟨rfl, rfl⟩
  | false =>
    have h1 : ¬ a.toList = b.toList := fun e => by have := ce.1 (ba_ext e); cases this
    clear ce
    go_enter Tryd.func36, Tryd.ntmps36
    go_upto_region 1 with (fail)
    refine wp_region_lit ?_
    refine wpList_run rfl (u) (by simp [go_sem]) ?_
    simp only [Act.put, List.setIfInBounds_toArray, List.set_cons_zero, List.set_cons_succ]
    refine wpList_run rfl (.string a) (by simp [go_sem, ca]) ?_
    simp only [Act.put, List.setIfInBounds_toArray, List.set_cons_zero, List.set_cons_succ]
    refine wpList_run rfl (v) (by simp [go_sem]) ?_
    simp only [Act.put, List.setIfInBounds_toArray, List.set_cons_zero, List.set_cons_succ]
    refine wpList_run rfl (.string b) (by simp [go_sem, cb]) ?_
    simp only [Act.put, List.setIfInBounds_toArray, List.set_cons_zero, List.set_cons_succ]
    refine wpList_run rfl (.bool false) (by simp [go_sem, h1]) ?_
    simp only [Act.put, List.setIfInBounds_toArray, List.set_cons_zero, List.set_cons_succ]
    refine wpList_run rfl (.bool false) (by simp [go_sem]) ?_
    simp only [Act.put, List.setIfInBounds_toArray, List.set_cons_zero, List.set_cons_succ]
    clear ca cb h1
    go_wp2
    go_ret
    exact ⟨rfl, rfl⟩
/-- a list of bytes, wherever they are -/
def PL (v : Value) (n : Nat) (us : Nat → Value) (ls : Nat → Nat) (fs : Nat → Nat → BitVec 8) (w : World) : Prop :=
  ((v = .slice none 0 0 ∧ n = 0) ∨ ∃ a cap, v = .slice (some a) n cap ∧ n ≤ cap ∧ ∀ j, j < n → w.cell? (a.add j) = some (us j)) ∧ ∀ i, i < n → PV (us i) (ls i) (fs i) w
theorem PL.ext {v : Value} {n : Nat} {us : Nat → Value} {ls : Nat → Nat} {fs : Nat → Nat → BitVec 8} {w X : World} (h : PL v n us ls fs w) (k : Ext w X) : PL v n us ls fs X := by
  refine ⟨?_, fun i hi => (h.2 i hi).ext k⟩
  rcases h.1 with h1 | ⟨a, cap, h1, h2, h3⟩
  · exact .inl h1
  · exact .inr ⟨a, cap, h1, h2, fun j hj => cell_ext' k (h3 j hj)⟩
theorem PL.form {v : Value} {n : Nat} {us : Nat → Value} {ls : Nat → Nat} {fs : Nat → Nat → BitVec 8} {w : World} (h : PL v n us ls fs w) : ∃ oa cp, v = .slice oa n cp := by
  rcases h.1 with ⟨rfl, rfl⟩ | ⟨a, cap, rfl, _⟩
  · exact ⟨_, _, rfl⟩
  · exact ⟨_, _, rfl⟩
theorem PL.at {o : Option Addr} {cap n : Nat} {us : Nat → Value} {ls : Nat → Nat} {fs : Nat → Nat → BitVec 8} {w : World} (h : PL (.slice o n cap) n us ls fs w) (k : Nat) (hk : k < n) : ∃ a, o = some a ∧ w.cell? (a.add k) = some (us k) := by
  rcases h.1 with ⟨_, h0⟩ | ⟨a, c, h1, h2, h3⟩
  · omega
  · injection h1 with h1
    exact ⟨a, h1, h3 k hk⟩
def sameL (n m : Nat) (ls ls' : Nat → Nat) (fs fs' : Nat → Nat → BitVec 8) : Prop := n = m ∧ ∀ i, i < n → eqB (ls i) (ls' i) (fs i) (fs' i) = true
def EqQ (n m : Nat) (ls ls' : Nat → Nat) (fs fs' : Nat → Nat → BitVec 8) (w : World) (e : Ending) (w' : World) : Prop := ∃ r : Bool, e = .returned (.bool r) ∧ (r = true ↔ sameL n m ls ls' fs fs') ∧ Ext w w'
theorem eqq_mk {n m : Nat} {ls ls' : Nat → Nat} {fs fs' : Nat → Nat → BitVec 8} {w w' : World} {e : Ending} (r : Bool) (h : e = .returned (.bool r)) (k : r = true ↔ sameL n m ls ls' fs fs') (x : Ext w w') : EqQ n m ls ls' fs fs' w e w' := ⟨r, h, k, x⟩
set_option maxRecDepth 20000 in
set_option maxHeartbeats 4000000 in
theorem eqf_any (v0 v1 : Value) (n m : Nat) (us us' : Nat → Value) (ls ls' : Nat → Nat) (fs fs' : Nat → Nat → BitVec 8) (w : World) (hA : PL v0 n us ls fs w) (hB : PL v1 m us' ls' fs' w) (hn : n ≤ 4398046511104) (hm : m ≤ 4398046511104) : Calls Tryd.prog 35 #[v0, v1, .func (.func 36) #[] #[]] w (EqQ n m ls ls' fs fs' w) := by
  obtain ⟨o, cap, rfl⟩ := hA.form
  obtain ⟨o', cap', rfl⟩ := hB.form
  replace hA := hideit hA
  replace hB := hideit hB
  by_cases hnm : n = m
  · subst hnm
    go_enter Tryd.func35, Tryd.ntmps35
    go_wp2
    go_loopw [17] (fun iv X => ∃ k : Nat, k ≤ n ∧ iv = .int .i64 (k : Int) ∧ (∀ i, i < k → eqB (ls i) (ls' i) (fs i) (fs' i) = true) ∧ Ext w X) (fun iv _ => 5000000000000 - (intOf iv).toNat)
    case atStart => exact ⟨0, Nat.zero_le _, rfl, fun i hi => absurd hi (Nat.not_lt_zero _), Ext.refl _⟩
    case round =>
      obtain ⟨k, hk, rfl, hI, hE⟩ := hrel
      replace hI := hideit hI
      by_cases hlt : k < n
      · have k0 : (0 : Int) ≤ (k : Int) := by omega
        have k1 : (k : Int) < (n : Int) := by omega
        have ha := hA.out.ext hE
        have hb := hB.out.ext hE
        obtain ⟨a, rfl, hea⟩ := ha.at k hlt
        obtain ⟨b, rfl, heb⟩ := hb.at k hlt
        have ke := hideit (equal_pv (us k) (us' k) (ls k) (ls' k) (fs k) (fs' k) wr (ha.2 k hlt) (hb.2 k hlt))
        obtain ⟨r, hr⟩ : ∃ r, r = eqB (ls k) (ls' k) (fs k) (fs' k) := ⟨_, rfl⟩
        rw [← hr] at ke
        replace hr := hideit hr
        replace hE := hideit hE
        clear ha hb
        go_upto_region 4 with (fail)
        refine wp_region_lit ?_
        refine wpList_run rfl (.bool true) (by simp [go_sem, k1]) ?_
        simp only [Act.put, List.setIfInBounds_toArray, List.set_cons_zero, List.set_cons_succ]
        go_upto_region 5 with (fail)
        refine wp_region_lit ?_
        refine wpList_run rfl (.int .i64 (k : Int)) (by simp [go_sem]) ?_
        simp only [Act.put, List.setIfInBounds_toArray, List.set_cons_zero, List.set_cons_succ]
        refine wpList_run rfl (.pointer (some (a.add k))) (by simp [go_sem, k1]) ?_
        simp only [Act.put, List.setIfInBounds_toArray, List.set_cons_zero, List.set_cons_succ]
        refine wpList_run rfl (us k) (by simp [go_sem, hea]) ?_
        simp only [Act.put, List.setIfInBounds_toArray, List.set_cons_zero, List.set_cons_succ]
        refine wpList_run rfl (.int .i64 (k : Int)) (by simp [go_sem]) ?_
        simp only [Act.put, List.setIfInBounds_toArray, List.set_cons_zero, List.set_cons_succ]
        refine wpList_run rfl (us k) (by simp [go_sem]) ?_
        simp only [Act.put, List.setIfInBounds_toArray, List.set_cons_zero, List.set_cons_succ]
        go_upto_region 6 with (fail)
        refine wp_region_lit ?_
        refine wpList_run rfl ((.slice (some b) n cap')) (by simp [go_sem]) ?_
        simp only [Act.put, List.setIfInBounds_toArray, List.set_cons_zero, List.set_cons_succ]
        refine wpList_run rfl (.int .i64 (k : Int)) (by simp [go_sem]) ?_
        simp only [Act.put, List.setIfInBounds_toArray, List.set_cons_zero, List.set_cons_succ]
        refine wpList_run rfl (.pointer (some (b.add k))) (by simp [go_sem, k1]) ?_
        simp only [Act.put, List.setIfInBounds_toArray, List.set_cons_zero, List.set_cons_succ]
        refine wpList_run rfl (us' k) (by simp [go_sem, heb]) ?_
        simp only [Act.put, List.setIfInBounds_toArray, List.set_cons_zero, List.set_cons_succ]
        refine wpList_run rfl (us' k) (by simp [go_sem]) ?_
        simp only [Act.put, List.setIfInBounds_toArray, List.set_cons_zero, List.set_cons_succ]
        go_upto_region 7 with (fail)
        refine wp_region_lit ?_
        refine wpList_run rfl (.func (.func 36) #[] #[]) (by simp [go_sem]) ?_
        simp only [Act.put, List.setIfInBounds_toArray, List.set_cons_zero, List.set_cons_succ]
        refine wpList_run rfl (us k) (by simp [go_sem]) ?_
        simp only [Act.put, List.setIfInBounds_toArray, List.set_cons_zero, List.set_cons_succ]
        refine wpList_run rfl (us' k) (by simp [go_sem]) ?_
        simp only [Act.put, List.setIfInBounds_toArray, List.set_cons_zero, List.set_cons_succ]
        refine wpList_call rfl (by simp [go_sem]) ((ke.out).mono ?_)
        rintro e w9 ⟨rfl, hw9⟩
        refine ⟨_, rfl, ?_⟩
        simp only [Act.put, List.setIfInBounds_toArray, List.set_cons_zero, List.set_cons_succ]
        rw [hw9]
        clear ke hea heb hw9
        cases r with
        | true =>
          go_wp2
          refine ⟨⟨k + 1, by omega, by go_num, fun i hi => ?_, hE.out⟩, by simp [intOf]; omega⟩
          by_cases e : i = k
          · rw [e]
            exact hr.out.symm
          · exact hI.out i (by omega)
        | false =>
          go_wp2
          go_ret
          refine eqq_mk false rfl ⟨fun h => (by cases h), fun h => ?_⟩ hE.out
          have e1 := hr.out
          rw [h.2 k hlt] at e1
          cases e1
      · obtain rfl : k = n := by omega
        have k1 : ¬ (k : Int) < (k : Int) := by omega
        replace hE := hideit hE
        go_wp2
        go_ret
        exact eqq_mk true rfl ⟨fun _ => ⟨rfl, hI.out⟩, fun _ => rfl⟩ hE.out
  · have e1 : ¬ (n : Int) = (m : Int) := by omega
    go_enter Tryd.func35, Tryd.ntmps35
    go_wp2
    go_ret
    exact eqq_mk false rfl ⟨fun h => (by cases h), fun h => absurd h.1 hnm⟩ (Ext.refl _)
end Go.Proofs.YtedgopionpdfeaaDoor
namespace Go.Proofs.YtedgopionpdfeaaDoor
open Go.RowKit Go.BigFrame
/-- facts on the element's type: K cells, B bytes -/
structure ElemK (P : Program) (t e : TypeId) (K B : Nat) : Prop where
  slice : P.underlying t = some (.slice e)
  info : ∃ i z, P.info? e = some i ∧ i.zero = some z ∧ i.size = K ∧ i.bytes = B ∧ z.cells.size = K
theorem elem_k {P : Program} {t e : TypeId} {K B : Nat} (hs : P.underlying t = some (.slice e)) (h1 : (P.info? e).map (·.size) = some K) (h2 : (P.info? e).map (·.bytes) = some B) (h3 : ((P.info? e).bind (·.zero)).map (·.cells.size) = some K) : ElemK P t e K B := by
  refine ⟨hs, ?_⟩
  cases hi : P.info? e with
  | none => rw [hi] at h1; cases h1
  | some i =>
    rw [hi] at h1 h2 h3
    simp only [Option.map_some, Option.some.injEq, Option.bind_some] at h1 h2 h3
    cases hz : i.zero with
    | none => rw [hz] at h3; cases h3
    | some z =>
      rw [hz] at h3
      simp only [Option.map_some, Option.some.injEq] at h3
      exact ⟨i, z, rfl, hz, h1, h2, h3⟩
/-- n elements of K cells, told by g over the cells, in a block at or behind base -/
def OwnK (K base : Nat) (e : TypeId) (v : Value) (n : Nat) (g : Nat → Value) (w : World) : Prop := w.ownsRow base e K v n (row (n * K) g)
section
variable {K base : Nat} {e : TypeId} {v : Value} {n B : Nat} {g g' : Nat → Value} {w w' : World}
theorem OwnK.congr (h : OwnK K base e v n g w) (hg : ∀ j, j < n * K → g j = g' j) : OwnK K base e v n g' w := by
  unfold OwnK at h ⊢
  rw [← row_ext hg]
  exact h
theorem OwnK.ext (h : OwnK K base e v n g w) (k : Ext w w') : OwnK K base e v n g w' :=
  World.ownsRow.kept (row := none) h ⟨Below.os k, Below.tape k, Below.output k, Below.size k, fun i hi _ => Below.block k i hi⟩ (by cases v.ownBlock <;> simp)
theorem OwnK.but {c : Nat} (h : OwnK K base e v n g w) (k : But c w w') (hc : v.ownBlock ≠ some c) : OwnK K base e v n g w' := World.ownsRow.kept h k (.inr hc)
theorem OwnK.kept {row : Option Nat} (h : OwnK K base e v n g w) (hg : w.grownBy w' row) (hne : v.ownBlock = none ∨ v.ownBlock ≠ row) : OwnK K base e v n g w' := World.ownsRow.kept h hg hne
theorem OwnK.lt (h : OwnK K base e v n g w) : ∀ k, v.ownBlock = some k → base ≤ k ∧ k < w.heap.size := World.ownsRow.lt h
theorem OwnK.form (h : OwnK K base e v n g w) : ∃ o cp, v = .slice o n cp := by
  rcases h.2 with ⟨h1, h0⟩ | ⟨k, cap, cur, hv, _⟩
  · exact ⟨none, 0, by rw [h1, h0]⟩
  · exact ⟨_, _, hv⟩
theorem ownK_nil (w : World) (K base : Nat) (e : TypeId) (g : Nat → Value) : OwnK K base e (.slice none 0 0) 0 g w := by
  unfold OwnK
  rw [Nat.zero_mul]
  exact World.ownsRow_nil w base e K
/-- where it lies -/
theorem OwnK.lies (h : OwnK K base e v n g w) (hn : 0 < n) : ∃ b cap, v = .slice (some ⟨b, 0, none⟩) n cap ∧ base ≤ b ∧ n ≤ cap ∧ cap ≤ maxLen ∧ RowAt b (n * K) g w := by
  have h0 := h
  rcases h.2 with ⟨_, h2⟩ | ⟨b, cap, cur, rfl, hb, hg, hc, hm, _, ht⟩
  · omega
  · refine ⟨b, cap, rfl, hb, hc, hm, fun j hj => ?_, fun j hj => ?_, (Array.getElem?_eq_some_iff.1 hg).1⟩
    · have h1 := World.ownsRow.cells h0 (g := b) rfl j (g j) (row_get (n * K) g j hj)
      have hadd : (⟨b, 0, none⟩ : Addr).add j = ⟨b, j, none⟩ := by unfold Addr.add; split <;> simp_all
      rwa [hadd] at h1
    · simp [World.frozen?, hg]
/-- append of elements that lie somewhere -/
theorem wpList_growK {P : Program} {ops : Array Oper} {rest : List Oper} {o : Oper} {a : Act} {Q : Exit → Act → World → Prop} {t : TypeId} (E : ElemK P t e K B) (hK : 0 < K) (hgd : o.guard = none) (s x : Operand)
    (ho : o.op = .call { callee := .builtin .append, args := #[s, x], argTypes := #[t, t] }) (hs : a.eval s = v) (hown : OwnK K base e v n g w)
    (ad : Addr) (m c : Nat) (u f : Nat → Value) (hx : a.eval x = .slice (some ad) m c) (hl : LieAt ad (m * K) u w) (h1 : ∀ j, j < m * K → (u j).oneCell' = true) (hf1 : ∀ j, j < n * K → g j = f j) (hf2 : ∀ j, j < m * K → u j = f (n * K + j))
    (hbytes : (n + m) * B ≤ 140737488355328) (h63 : n + m ≤ 140737488355328) (hbase : base ≤ w.heap.size)
    (h : ∀ v' w', OwnK K base e v' (n + m) f w' → w.grownBy w' v.ownBlock → wpList P ops Q rest (a.put o.dst v') w') : wpList P ops Q (o :: rest) a w := by
  obtain ⟨i, z, e1, e2, e3, e4, e5⟩ := E.info
  refine wpList_append_own w hgd s x t ho base e i z K B E.slice e1 e2 e3 e4 e5 hK v n (row (n * K) g) hs hown ad m c (row (m * K) u) hx (by rw [row_length]) (fun j w0 hj => ?_) (fun w0 hw0 => ?_) (by unfold maxLen; omega) hbytes hbase fun v' w' h2 h3 _ => h v' w' ?_ h3
  · obtain ⟨hj', rfl⟩ := row_some hj
    exact hl.1 j hj'
  · obtain ⟨j, hj, rfl⟩ := List.mem_map.1 hw0
    exact h1 j (by simpa using hj)
  · unfold OwnK
    rw [row_append (n * K) (m * K) g u f hf1 hf2, ← Nat.add_mul] at h2
    exact h2
end
end Go.Proofs.YtedgopionpdfeaaDoor
