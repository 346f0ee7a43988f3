/-
  Slices of the call's own whose elements have K cells: how they grow by append, how they lie; no word of the program. A disk's unsure writes, listed; the sort is told by what it is asked for.
-/
import Derived.Test.YtfaeieaelfjlpaaQ5
import Derived.Test.YtfaeieaelfjlpaaQ17
namespace Go.Proofs.Ytfaeieaelfjlpaa
open Go.RowKit Go.BigFrame
/-- facts on the element's type: K cells, B bytes -/
structure ElemK (P : Program) (t e : TypeId) (K B : Nat) : Prop where
  slice : P.underlying t = some (.slice e)
  info : ∃ i z, P.info? e = some i ∧ i.zero = some z ∧ i.size = K ∧ i.bytes = B ∧ z.cells.size = K
theorem elem_k {P : Program} {t e : TypeId} {K B : Nat} (hs : P.underlying t = some (.slice e)) (h1 : (P.info? e).map (·.size) = some K) (h2 : (P.info? e).map (·.bytes) = some B) (h3 : ((P.info? e).bind (·.zero)).map (·.cells.size) = some K) : ElemK P t e K B := by
  refine ⟨hs, ?_⟩
  cases hi : P.info? e with
  | none => rw [hi] at h1; cases h1
  | some i =>
    rw [hi] at h1 h2 h3
    simp only [Option.map_some, Option.some.injEq, Option.bind_some] at h1 h2 h3
    cases hz : i.zero with
    | none => rw [hz] at h3; cases h3
    | some z =>
      rw [hz] at h3
      simp only [Option.map_some, Option.some.injEq] at h3
      exact ⟨i, z, rfl, hz, h1, h2, h3⟩
/-- n elements of K cells, told by g over the cells, in a block at or behind base -/
def OwnK (K base : Nat) (e : TypeId) (v : Value) (n : Nat) (g : Nat → Value) (w : World) : Prop := w.ownsRow base e K v n (row (n * K) g)
section
variable {K base : Nat} {e : TypeId} {v : Value} {n B : Nat} {g g' : Nat → Value} {w w' : World}
theorem OwnK.congr (h : OwnK K base e v n g w) (hg : ∀ j, j < n * K → g j = g' j) : OwnK K base e v n g' w := by
  unfold OwnK at h ⊢
  rw [← row_ext hg]
  exact h
theorem OwnK.ext (h : OwnK K base e v n g w) (k : Ext w w') : OwnK K base e v n g w' :=
  World.ownsRow.kept (row := none) h ⟨Below.os k, Below.tape k, Below.output k, Below.size k, fun i hi _ => Below.block k i hi⟩ (by cases v.ownBlock <;> simp)
theorem OwnK.but {c : Nat} (h : OwnK K base e v n g w) (k : But c w w') (hc : v.ownBlock ≠ some c) : OwnK K base e v n g w' := World.ownsRow.kept h k (.inr hc)
theorem OwnK.kept {row : Option Nat} (h : OwnK K base e v n g w) (hg : w.grownBy w' row) (hne : v.ownBlock = none ∨ v.ownBlock ≠ row) : OwnK K base e v n g w' := World.ownsRow.kept h hg hne
theorem OwnK.lt (h : OwnK K base e v n g w) : ∀ k, v.ownBlock = some k → base ≤ k ∧ k < w.heap.size := World.ownsRow.lt h
theorem OwnK.form (h : OwnK K base e v n g w) : ∃ o cp, v = .slice o n cp := by
  rcases h.2 with ⟨h1, h0⟩ | ⟨k, cap, cur, hv, _⟩
  · exact ⟨none, 0, by rw [h1, h0]⟩
  · exact ⟨_, _, hv⟩
theorem ownK_nil (w : World) (K base : Nat) (e : TypeId) (g : Nat → Value) : OwnK K base e (.slice none 0 0) 0 g w := by
  unfold OwnK
  rw [Nat.zero_mul]
  exact World.ownsRow_nil w base e K
/-- where it lies -/
theorem OwnK.lies (h : OwnK K base e v n g w) (hn : 0 < n) : ∃ b cap, v = .slice (some ⟨b, 0, none⟩) n cap ∧ base ≤ b ∧ n ≤ cap ∧ cap ≤ maxLen ∧ RowAt b (n * K) g w := by
  have h0 := h
  rcases h.2 with ⟨_, h2⟩ | ⟨b, cap, cur, rfl, hb, hg, hc, hm, _, ht⟩
  · omega
  · refine ⟨b, cap, rfl, hb, hc, hm, fun j hj => ?_, fun j hj => ?_, (Array.getElem?_eq_some_iff.1 hg).1⟩
    · have h1 := World.ownsRow.cells h0 (g := b) rfl j (g j) (row_get (n * K) g j hj)
      have hadd : (⟨b, 0, none⟩ : Addr).add j = ⟨b, j, none⟩ := by unfold Addr.add; split <;> simp_all
      rwa [hadd] at h1
    · simp [World.frozen?, hg]
/-- append of elements that lie somewhere -/
theorem wpList_growK {P : Program} {ops : Array Oper} {rest : List Oper} {o : Oper} {a : Act} {Q : Exit → Act → World → Prop} {t : TypeId} (E : ElemK P t e K B) (hK : 0 < K) (hgd : o.guard = none) (s x : Operand)
    (ho : o.op = .call { callee := .builtin .append, args := #[s, x], argTypes := #[t, t] }) (hs : a.eval s = v) (hown : OwnK K base e v n g w)
    (ad : Addr) (m c : Nat) (u f : Nat → Value) (hx : a.eval x = .slice (some ad) m c) (hl : LieAt ad (m * K) u w) (h1 : ∀ j, j < m * K → (u j).oneCell' = true) (hf1 : ∀ j, j < n * K → g j = f j) (hf2 : ∀ j, j < m * K → u j = f (n * K + j))
    (hbytes : (n + m) * B ≤ 140737488355328) (h63 : n + m ≤ 140737488355328) (hbase : base ≤ w.heap.size)
    (h : ∀ v' w', OwnK K base e v' (n + m) f w' → w.grownBy w' v.ownBlock → wpList P ops Q rest (a.put o.dst v') w') : wpList P ops Q (o :: rest) a w := by
  obtain ⟨i, z, e1, e2, e3, e4, e5⟩ := E.info
  refine wpList_append_own w hgd s x t ho base e i z K B E.slice e1 e2 e3 e4 e5 hK v n (row (n * K) g) hs hown ad m c (row (m * K) u) hx (by rw [row_length]) (fun j w0 hj => ?_) (fun w0 hw0 => ?_) (by unfold maxLen; omega) hbytes hbase fun v' w' h2 h3 _ => h v' w' ?_ h3
  · obtain ⟨hj', rfl⟩ := row_some hj
    exact hl.1 j hj'
  · obtain ⟨j, hj, rfl⟩ := List.mem_map.1 hw0
    exact h1 j (by simpa using hj)
  · unfold OwnK
    rw [row_append (n * K) (m * K) g u f hf1 hf2, ← Nat.add_mul] at h2
    exact h2
end
end Go.Proofs.Ytfaeieaelfjlpaa
namespace Go.Proofs.Ytfaeieaelfjlpaa
open Go.RowKit Go.BigFrame Go.Maps
theorem elem32K : ElemK Try.prog 32 65 2 16 := elem_k Try.underlying32 (by kernel_rfl) (by kernel_rfl) (by kernel_rfl)
theorem kpV_one (x y : Nat → Int) (j : Nat) : (kpV x y j).oneCell' = true := by unfold kpV kpI; split <;> rfl
section
variable {F : Nat → Prop} {p : Nat} {s : DSt} {C : Nat} {M : DM} {W X : World}
def kcI (s : DSt) (ks : Nat → Int) (j : Nat) : Int := (s.kc (ks j).toNat : Int)
/-- k numbers: those of the blocks with unsure writes, each once -/
structure Lst (s : DSt) (ks : Nat → Int) (k : Nat) : Prop where
  isN : ∀ j, j < k → ∃ n : Nat, ks j = (n : Int) ∧ n < s.N ∧ 0 < s.kc n
  all : ∀ n, n < s.N → 0 < s.kc n → ∃ j, j < k ∧ ks j = (n : Int)
  inj : ∀ i j, i < k → j < k → ks i = ks j → i = j
/-- the list on its way -/
structure LsW (s : DSt) (C : Nat) (M : DM) (W : World) (r : Nat) (lv : Value) (k : Nat) (ks : Nat → Int) (left : Int → Bool) (cnt : Nat) (X : World) : Prop where
  own : OwnK 2 W.heap.size 65 lv k (kpV ks (kcI s ks)) X
  rg : RangeAt Try.prog 3 M.mb r C M.m left cnt X
  rn : W.heap.size ≤ r
  ext : Ext W X
  kN : k ≤ s.N
  isN : ∀ j, j < k → ∃ n : Nat, ks j = (n : Int) ∧ n < s.N ∧ 0 < s.kc n ∧ left n = false
  all : ∀ n : Nat, n < s.N → 0 < s.kc n → left n = false → ∃ j, j < k ∧ ks j = (n : Int)
  inj : ∀ i j, i < k → j < k → ks i = ks j → i = j
theorem kpV_snoc (s : DSt) (ks : Nat → Int) (k : Nat) (x : Int) : (∀ j, j < k * 2 → kpV ks (kcI s ks) j = kpV (upN ks k x) (kcI s (upN ks k x)) j) ∧ ∀ j, j < 2 → kpI x (s.kc x.toNat : Int) j = kpV (upN ks k x) (kcI s (upN ks k x)) (k * 2 + j) := by
  refine ⟨fun j hj => ?_, fun j hj => ?_⟩
  · unfold kpV kcI
    rw [upN_other _ (by omega)]
  · unfold kpV kcI
    rw [show (k * 2 + j) / 2 = k by omega, show (k * 2 + j) % 2 = j by omega, upN_same]
theorem own_range_ne {base r k b n cnt : Nat} {v : Value} {g : Nat → Value} {m : Int → Option Value} {left : Int → Bool} (hO : OwnK 2 base 65 v k g X) (hR : RangeAt Try.prog 3 b r n m left cnt X) : v.ownBlock ≠ some r := fun e => by
  obtain ⟨_, ⟨h1, _⟩ | ⟨g', cap, cur, h1, _, h2, _⟩⟩ := hO
  · rw [h1] at e
    cases e
  · rw [h1] at e
    injection e with e
    subst e
    obtain ⟨D, lf, ⟨es, clock, since, seen, c0, _, _, _, _, hr, _⟩, _⟩ := hR
    rw [hr] at h2
    cases h2
/-- so many different numbers are no more than there are -/
theorem few : ∀ (N k : Nat) (f : Nat → Nat), (∀ j, j < k → f j < N) → (∀ i j, i < k → j < k → f i = f j → i = j) → k ≤ N
  | 0, k, f, h, _ => by
    rcases Nat.eq_zero_or_pos k with h0 | h0
    · omega
    · exact absurd (h 0 h0) (by omega)
  | N + 1, k, f, h, hi => by
    by_cases he : ∃ j, j < k ∧ f j = N
    · obtain ⟨j0, hj0, hf0⟩ := he
      have := few N (k - 1) (fun j => if j < j0 then f j else f (j + 1)) (fun j hj => by
        by_cases h1 : j < j0
        · simp only [if_pos h1]
          have h2 := h j (by omega)
          have h3 : f j ≠ N := fun e => by have := hi j j0 (by omega) hj0 (by omega); omega
          omega
        · simp only [if_neg h1]
          have h2 := h (j + 1) (by omega)
          have h3 : f (j + 1) ≠ N := fun e => by have := hi (j + 1) j0 (by omega) hj0 (by omega); omega
          omega) (fun i j hi' hj' e => by
        by_cases h1 : i < j0 <;> by_cases h2 : j < j0 <;> simp only [h1, h2, if_true, if_false] at e
        · exact hi i j (by omega) (by omega) e
        · have := hi i (j + 1) (by omega) (by omega) e; omega
        · have := hi (i + 1) j (by omega) (by omega) e; omega
        · have := hi (i + 1) (j + 1) (by omega) (by omega) e; omega)
      omega
    · have := few N k f (fun j hj => by
        have h2 := h j hj
        have h3 : f j ≠ N := fun e => he ⟨j, hj, e⟩
        omega) hi
      omega
theorem LsW.next {r cnt cnt' k n : Nat} {lv lv' : Value} {ks : Nat → Int} {left : Int → Bool} {Z : World} (h : LsW s C M W r lv k ks left cnt X) (hln : left n = true) (hn : n < s.N) (hk : 0 < s.kc n) (hE : Ext W Z)
    (hR : RangeAt Try.prog 3 M.mb r C M.m (fun y => left y && !decide (y = (n : Int))) cnt' Z) (hO : OwnK 2 W.heap.size 65 lv' (k + 1) (kpV (upN ks k (n : Int)) (kcI s (upN ks k (n : Int)))) Z) : LsW s C M W r lv' (k + 1) (upN ks k (n : Int)) (fun y => left y && !decide (y = (n : Int))) cnt' Z := by
  have hne : ∀ j, j < k → ks j ≠ (n : Int) := fun j hj e => by
    obtain ⟨n', a1, _, _, a4⟩ := h.isN j hj
    rw [a1] at e
    have : n' = n := by omega
    rw [this, hln] at a4
    cases a4
  have hinj : ∀ i j, i < k + 1 → j < k + 1 → upN ks k (n : Int) i = upN ks k (n : Int) j → i = j := fun i j hi hj e => by
    by_cases e1 : i = k
    · subst e1
      by_cases e2 : j = i
      · exact e2.symm
      · rw [upN_same, upN_other _ e2] at e
        exact absurd e.symm (hne j (by omega))
    · rw [upN_other _ e1] at e
      by_cases e2 : j = k
      · subst e2
        rw [upN_same] at e
        exact absurd e (hne i (by omega))
      · rw [upN_other _ e2] at e
        exact h.inj i j (by omega) (by omega) e
  have hisN : ∀ j, j < k + 1 → ∃ n' : Nat, upN ks k (n : Int) j = (n' : Int) ∧ n' < s.N ∧ 0 < s.kc n' ∧ (left n' && !decide ((n' : Int) = (n : Int))) = false := fun j hj => by
    by_cases e : j = k
    · subst e
      exact ⟨n, upN_same _ _ _, hn, hk, by simp⟩
    · rw [upN_other _ e]
      obtain ⟨n', a1, a2, a3, a4⟩ := h.isN j (by omega)
      exact ⟨n', a1, a2, a3, by rw [a4]; rfl⟩
  refine ⟨hO, hR, h.rn, hE, ?_, hisN, fun n' hn' hk' hl' => ?_, hinj⟩
  · refine few s.N (k + 1) (fun j => (upN ks k (n : Int) j).toNat) (fun j hj => ?_) fun i j hi hj e => ?_
    · obtain ⟨n', a1, a2, _⟩ := hisN j hj
      show (upN ks k (n : Int) j).toNat < s.N
      rw [a1, Int.toNat_natCast]
      exact a2
    · obtain ⟨n1, a1, _⟩ := hisN i hi
      obtain ⟨n2, a2, _⟩ := hisN j hj
      refine hinj i j hi hj ?_
      have e' : (upN ks k (n : Int) i).toNat = (upN ks k (n : Int) j).toNat := e
      rw [a1, a2, Int.toNat_natCast, Int.toNat_natCast] at e'
      rw [a1, a2, e']
  · by_cases e : n' = n
    · subst e
      exact ⟨k, by omega, upN_same _ _ _⟩
    · have : decide ((n' : Int) = (n : Int)) = false := decide_eq_false fun e2 => e (by omega)
      rw [this] at hl'
      simp at hl'
      obtain ⟨j, a1, a2⟩ := h.all n' hn' hk' hl'
      exact ⟨j, by omega, by rw [upN_other _ (by omega)]; exact a2⟩
set_option maxRecDepth 20000 in
set_option maxHeartbeats 4000000 in
theorem dunsure_gen (h : DkM F p s C M W) (Post : Value → World → Prop)
    (hs : ∀ v k ks X, OwnK 2 W.heap.size 65 v k (kpV ks (kcI s ks)) X → Lst s ks k → k ≤ 4096 → Ext W X → Calls Try.prog 39 #[v, .func (.func 40) #[] #[]] X fun e X' => e = .returned (.tuple #[]) ∧ Ext W X' ∧ Post v X') :
    Calls Try.prog 17 #[.pointer (some ⟨p, 0, none⟩)] W fun e w' => ∃ v, e = .returned v ∧ Ext W w' ∧ Post v w' := by
  have ec := h.c1
  have hn4 := h.n4
  obtain ⟨w1, cnt0, hr1, hR1, hg1, hs1⟩ := h.mp.range (t := 56) Try.underlying3 Try.underlying56
  have hE1 : Ext W w1 := ⟨hg1.os, hg1.tape, hg1.output, hg1.size, fun i hi => hg1.block i hi (by simp)⟩
  have hS : Hid (LsW s C M W W.heap.size (.slice none 0 0) 0 (fun _ => 0) (fun x => (M.m x).isSome) cnt0 w1) := ⟨ownK_nil _ _ _ _ _, hR1, Nat.le_refl _, hE1, Nat.zero_le _, (fun j hj => by omega), (fun n hn hk hl => by
    rcases h.list n hn with ⟨_, h2⟩ | ⟨v, h2, _⟩
    · omega
    · rw [h2] at hl
      cases hl), (fun i j hi => by omega)⟩
  replace h := hideit h
  replace hs := hideit hs
  clear hR1 hg1 hs1 hE1
  go_enter Try.func17, Try.ntmps17
  go_upto_region 4 with (fail)
  refine wp_region_lit ?_
  refine wpList_run rfl (.pointer (some ⟨p, 0, none⟩)) (by simp [go_sem]) ?_
  simp only [Act.put, List.setIfInBounds_toArray, List.set_cons_zero, List.set_cons_succ]
  refine wpList_run rfl (.pointer (some ⟨p, 0, none⟩)) (by simp [go_sem]) ?_
  simp only [Act.put, List.setIfInBounds_toArray, List.set_cons_zero, List.set_cons_succ]
  refine wpList_run rfl (.pointer (some ⟨p, 1, none⟩)) (by simp [go_sem]) ?_
  simp only [Act.put, List.setIfInBounds_toArray, List.set_cons_zero, List.set_cons_succ]
  refine wpList_run rfl (.map (some M.mb)) (by simp [go_sem, ec]) ?_
  simp only [Act.put, List.setIfInBounds_toArray, List.set_cons_zero, List.set_cons_succ]
  refine wpList_to rfl (.pointer (some ⟨W.heap.size, 0, none⟩)) w1 (exec_range (.tmp 11) rfl rfl hr1) ?_
  simp only [Act.put, List.setIfInBounds_toArray, List.set_cons_zero, List.set_cons_succ]
  clear hr1
  go_wp2
  go_loopw [3] (fun lv X => ∃ k ks left cnt, LsW s C M W W.heap.size lv k ks left cnt X) (fun _ X => X.rangeLeft M.mb W.heap.size)
  case atStart => exact ⟨_, _, _, _, hS.out⟩
  case round =>
    obtain ⟨k, ks, left, cnt, hI⟩ := hrel
    obtain ⟨yo, yc, rfl⟩ := hI.own.form
    rcases hI.rg.next Try.underlying3 0 with ⟨hdone, hrn⟩ | ⟨x, v, w2, cnt', hx, hlx, hmx, hrn, hR2, hcl, hg2, hs2, hen⟩
    · have hL : Lst s ks k := ⟨fun j hj => by
        obtain ⟨n, a1, a2, a3, _⟩ := hI.isN j hj
        exact ⟨n, a1, a2, a3⟩, fun n hn hk => hI.all n hn hk (hdone _ (h.out.ok n hn)), hI.inj⟩
      have hkN := hI.kN
      have ksr := hideit (hs.out _ k ks wr hI.own hL (by omega) hI.ext)
      clear hI hS hL
      go_upto_region 5 with (fail)
      refine wp_region_lit ?_
      refine wpList_to rfl (.tuple #[.bool false]) wr (exec_next (.tmp 12) rfl rfl hrn) ?_
      simp only [Act.put, List.setIfInBounds_toArray, List.set_cons_zero, List.set_cons_succ]
      clear hrn hdone
      go_upto_region 8 with (fail)
      refine wp_region_lit ?_
      refine wpList_run rfl (.slice yo k yc) (by simp [go_sem]) ?_
      simp only [Act.put, List.setIfInBounds_toArray, List.set_cons_zero, List.set_cons_succ]
      refine wpList_call rfl (by simp [go_sem]) ((ksr.out).mono ?_)
      rintro e w5 ⟨rfl, hX5, hP5⟩
      refine ⟨_, rfl, ?_⟩
      simp only [Act.put, List.setIfInBounds_toArray, List.set_cons_zero, List.set_cons_succ]
      replace hX5 := hideit hX5
      replace hP5 := hideit hP5
      go_wp2
      go_ret
      exact ⟨_, rfl, hX5.out, hP5.out⟩
    · obtain ⟨n, rfl, hn⟩ := h.out.keys x hx (by rw [hmx]; simp)
      obtain ⟨lo, lc, hls, hlo, hkc9, hlc9⟩ := h.out.lsForm hn
      have hk0 : 0 < s.kc n ∧ v = .slice lo (s.kc n) lc := by
        rcases h.out.list n hn with ⟨h2, _⟩ | ⟨v', h2, h3, h4⟩
        · rw [show M.m n = none from h2] at hmx
          cases hmx
        · refine ⟨h3, ?_⟩
          rw [← hls]
          unfold lsV
          rw [hmx]
          rfl
      obtain ⟨hk, rfl⟩ := hk0
      have hE2 : Ext W w2 := Ext.but hI.ext hg2 (Nat.le_refl _)
      have hX3 : Ext w2 (w2.alloc (.cells #[.int .i64 (n : Int), .int .i64 (s.kc n : Int)] 65)) := (Below.refl _ _).alloc (Nat.le_refl _) _
      have hO2 := hI.own.kept hg2 (.inr (own_range_ne hI.own hI.rg))
      have hO3 := hO2.ext hX3
      have hlie : LieAt ⟨w2.heap.size, 0, none⟩ (1 * 2) (kpI (n : Int) (s.kc n : Int)) (w2.alloc (.cells #[.int .i64 (n : Int), .int .i64 (s.kc n : Int)] 65)) := RowAt.lie (RowAt.newOf w2 2 _ 65 _ fun j hj => by
        rcases (by omega : j = 0 ∨ j = 1) with rfl | rfl <;> rfl) 2 (Nat.le_refl _)
      have hkN := hI.kN
      obtain ⟨hp1, hp2⟩ := kpV_snoc s ks k (n : Int)
      rw [Int.toNat_natCast] at hp2
      have hR3 : RangeAt Try.prog 3 M.mb W.heap.size C M.m (fun y => left y && !decide (y = (n : Int))) cnt' (w2.alloc (.cells #[.int .i64 (n : Int), .int .i64 (s.kc n : Int)] 65)) := hR2.kept (row := none) (World.grownBy_alloc _ _ _) (by simp) (by simp)
      have hE3 := Ext.trans hE2 hX3
      have hmb := h.out.lt _ h.out.fm
      have hme0 := hideit hI.rg.left_eq
      replace hcl := hideit hcl
      replace hI := hideit hI
      clear hS
      go_upto_region 5 with (fail)
      refine wp_region_lit ?_
      refine wpList_to rfl (.tuple #[.bool true, .int .i64 (n : Int), .slice lo (s.kc n) lc]) w2 (exec_next (.tmp 12) rfl rfl hrn) ?_
      simp only [Act.put, List.setIfInBounds_toArray, List.set_cons_zero, List.set_cons_succ]
      go_upto_region 6 with (fail)
      refine wp_region_lit ?_
      refine wpList_run rfl (.tuple #[.int .i64 (n : Int), .slice lo (s.kc n) lc]) (exec_entry (.tmp 12) rfl rfl hen) ?_
      simp only [Act.put, List.setIfInBounds_toArray, List.set_cons_zero, List.set_cons_succ]
      refine wpList_run rfl (.int .i64 (n : Int)) (by simp [go_sem]) ?_
      simp only [Act.put, List.setIfInBounds_toArray, List.set_cons_zero, List.set_cons_succ]
      refine wpList_run rfl (.slice lo (s.kc n) lc) (by simp [go_sem]) ?_
      simp only [Act.put, List.setIfInBounds_toArray, List.set_cons_zero, List.set_cons_succ]
      refine wpList_run rfl (.int .i64 (n : Int)) (by simp [go_sem]) ?_
      simp only [Act.put, List.setIfInBounds_toArray, List.set_cons_zero, List.set_cons_succ]
      refine wpList_run rfl (.slice lo (s.kc n) lc) (by simp [go_sem]) ?_
      simp only [Act.put, List.setIfInBounds_toArray, List.set_cons_zero, List.set_cons_succ]
      clear hrn hen
      go_upto_region 7 with (fail)
      refine wp_region_lit ?_
      refine wpList_run rfl (.slice yo k yc) (by simp [go_sem]) ?_
      simp only [Act.put, List.setIfInBounds_toArray, List.set_cons_zero, List.set_cons_succ]
      refine wpList_run rfl (.int .i64 (n : Int)) (by simp [go_sem]) ?_
      simp only [Act.put, List.setIfInBounds_toArray, List.set_cons_zero, List.set_cons_succ]
      refine wpList_run rfl (.slice lo (s.kc n) lc) (by simp [go_sem]) ?_
      simp only [Act.put, List.setIfInBounds_toArray, List.set_cons_zero, List.set_cons_succ]
      refine wpList_run rfl (.int .i64 (s.kc n : Int)) (by simp [go_sem]) ?_
      simp only [Act.put, List.setIfInBounds_toArray, List.set_cons_zero, List.set_cons_succ]
      refine wpList_run rfl (.agg #[.int .i64 (n : Int), .int .i64 (s.kc n : Int)]) (by simp [go_sem]) ?_
      simp only [Act.put, List.setIfInBounds_toArray, List.set_cons_zero, List.set_cons_succ]
      refine wpList_to rfl (.slice (some ⟨w2.heap.size, 0, none⟩) 1 1) (w2.alloc (.cells #[.int .i64 (n : Int), .int .i64 (s.kc n : Int)] 65)) (by simp [go_sem]) ?_
      simp only [Act.put, List.setIfInBounds_toArray, List.set_cons_zero, List.set_cons_succ]
      generalize w2.alloc (.cells #[.int .i64 (n : Int), .int .i64 (s.kc n : Int)] 65) = w3 at *
      refine wpList_growK (n := k) (base := W.heap.size) elem32K (by decide) rfl (.tmp 18) (.tmp 23) rfl rfl hO3 ⟨w2.heap.size, 0, none⟩ 1 1 _ (kpV (upN ks k (n : Int)) (kcI s (upN ks k (n : Int)))) rfl hlie (fun j hj => by unfold kpI; split <;> rfl) hp1 hp2 (by omega) (by omega) (Below.size hE3) ?_
      intro v4 w4 hO4 hg4
      have hE4 : Ext W w4 := Below.trans hE3 (below_grown (Below.size hE3) hg4 fun b hb => (hO3.lt b hb).1)
      have hR4 := hR3.kept hg4 (fun e => by have := (hO3.lt _ e.symm).1; omega) (fun e => own_range_ne hO3 hR3 e.symm)
      have hI4 := hideit (hI.out.next hlx hn hk hE4 hR4 hO4)
      have hme := hideit hR4.left_eq
      simp only [Act.put, List.setIfInBounds_toArray, List.set_cons_zero, List.set_cons_succ]
      clear hO4 hg4 hE4 hR4 hO3 hlie hO2 hE2 hE3 hX3 hR2 hR3 hp1 hp2 hg2 hs2 hlx hmx hx hls hlo hlc9
      obtain ⟨zo, zc, rfl⟩ := hI4.out.own.form
      go_wp2
      exact ⟨⟨_, _, _, _, hI4.out⟩, by rw [hme.out, hme0.out]; exact hcl.out⟩
end
end Go.Proofs.Ytfaeieaelfjlpaa
