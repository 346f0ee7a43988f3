/-
  A region that draws its order, told as in LadZ; besides, operations that only make memory may come up at any time ahead of their place in the list; no word of the program. A transaction appended.
-/
import Derived.Test.YtiakkclabgelfaaDoorQc22
import Derived.Test.YtiakkclabgelfaaDoorQc1
import Derived.Test.YtiakkclabgelfaaDoorQc43
namespace Go.Proofs.YtiakkclabgelfaaDoor
open Go.RowKit
section
variable {P : Program} {ops : Array Oper} {Q : Exit → Act → World → Prop} {brk fin : List Nat} {Mv : World → World → Prop} {R : Nat → Value → World → Prop} {C0 : World → Prop}
def MakY (P : Program) (ops : Array Oper) (C0 : World → Prop) (Mv : World → World → Prop) (o : Oper) (R : Value → World → Prop) (a : Act) : Prop :=
  ∀ X, C0 X → EffY P ops o X (fun v X' => R v X' ∧ Mv X X') a
theorem MakY.put {o : Oper} {T : Value → World → Prop} {u : Value} {a : Act} {d : Option Tmp} (hs : ∀ cs b, o.op ≠ .select cs b) (h : ∀ t, d = some t → t ∉ o.looksAt ops) : MakY P ops C0 Mv o T (a.put d u) ↔ MakY P ops C0 Mv o T a := by
  unfold MakY
  exact ⟨fun k X hX => (EffY.put hs h).1 (k X hX), fun k X hX => (EffY.put hs h).2 (k X hX)⟩
theorem effUpon_some {T : Value → World → Prop} : ∀ r : Result Next, effUpon P T r → ∃ v w, T v w
  | .ok (.value v) w, h => ⟨v, w, h⟩
  | .ok .skip w, h => ⟨undef, w, h⟩
  | .ok (.enter _ _) _, h => by
    obtain ⟨e, w', fr, ⟨v, _, hr⟩, _⟩ := h []
    exact ⟨v, w', hr⟩
theorem EffY.some {o : Oper} {w : World} {T : Value → World → Prop} {a : Act} (h : EffY P ops o w T a) : ∃ v w', T v w' := by
  rcases h with ⟨_, h⟩ | ⟨_, h⟩
  · exact effUpon_some _ h
  · exact ⟨_, _, h⟩
def Cl (Mv : World → World → Prop) (C : World → Prop) : Prop := ∀ X Y, C X → Mv X Y → C Y
def wpQ (P : Program) (ops : Array Oper) (Q : Exit → Act → World → Prop) (brk fin : List Nat) (Mv : World → World → Prop) (R : Nat → Value → World → Prop) (C0 : World → Prop) : List (Nat × Nat) → (World → Prop) → Act → Prop
  | [], C, a => ∀ w, C w → Q .normal a w
  | (0, i) :: r, C, a => ∃ o v, ops[i]? = some o ∧ StrC P ops C0 o v a ∧ wpQ P ops Q brk fin Mv R C0 r C (a.put o.dst v)
  | (1, i) :: r, C, a => ∃ o, ops[i]? = some o ∧ ∀ X, C X → EffY P ops o X (fun v X' => ∃ C' : World → Prop, C' X' ∧ (i ∈ brk ∨ (i ∈ fin ∧ ∀ Y, C' Y → C0 Y) ∨ ((∀ Y, C' Y → C Y) ∧ Mv X X' ∧ Cl Mv C')) ∧ wpQ P ops Q brk fin Mv R C0 r C' (a.put o.dst v)) a
  | (2, i) :: r, C, a => ∃ o, ops[i]? = some o ∧ MakY P ops C0 Mv o (R i) a ∧ ∀ v, (∃ X, C X ∧ R i v X) → wpQ P ops Q brk fin Mv R C0 r (fun X => C X ∧ R i v X) (a.put o.dst v)
  | (_ + 3, i) :: r, C, a => ∃ o v, ops[i]? = some o ∧ StrC P ops C o v a ∧ wpQ P ops Q brk fin Mv R C0 r C (a.put o.dst v)
theorem Cl.and {C D : World → Prop} (h : Cl Mv C) (k : Cl Mv D) : Cl Mv fun X => C X ∧ D X := fun X Y hX m => ⟨h X Y hX.1 m, k X Y hX.2 m⟩
theorem wpQ_mono (hR : ∀ i v, Cl Mv (R i v)) : ∀ (l : List (Nat × Nat)) (C D : World → Prop) (a : Act), (∀ X, D X → C X) → Cl Mv D → wpQ P ops Q brk fin Mv R C0 l C a → wpQ P ops Q brk fin Mv R C0 l D a
  | [], C, D, a, hs, _, h => fun w hw => h w (hs w hw)
  | (0, i) :: r, C, D, a, hs, hD, ⟨o, v, h1, h2, h3⟩ => ⟨o, v, h1, h2, wpQ_mono hR r C D _ hs hD h3⟩
  | (1, i) :: r, C, D, a, hs, hD, ⟨o, h1, h2⟩ => ⟨o, h1, fun X hX => EffY.mono (fun v X' ⟨C', c1, c2, c4⟩ => by
    rcases c2 with c2 | c2 | ⟨s1, m1, k1⟩
    · exact ⟨C', c1, .inl c2, c4⟩
    · exact ⟨C', c1, .inr (.inl c2), c4⟩
    · exact ⟨fun Y => C' Y ∧ D Y, ⟨c1, hD X X' hX m1⟩, .inr (.inr ⟨fun Y hY => hY.2, m1, k1.and hD⟩), wpQ_mono hR r C' _ _ (fun Y hY => hY.1) (k1.and hD) c4⟩) (h2 X (hs X hX))⟩
  | (2, i) :: r, C, D, a, hs, hD, ⟨o, h1, h3, h4⟩ => ⟨o, h1, h3, fun v ⟨X, hX⟩ => wpQ_mono hR r _ _ _ (fun Y hY => ⟨hs Y hY.1, hY.2⟩) (hD.and (hR i v)) (h4 v ⟨X, hs X hX.1, hX.2⟩)⟩
  | (_ + 3, i) :: r, C, D, a, hs, hD, ⟨o, v, h1, h2, h3⟩ => ⟨o, v, h1, h2.mono hs, wpQ_mono hR r C D _ hs hD h3⟩
theorem wpQ_float {C : World → Prop} (hsel : ∀ (j : Nat) (o : Oper) cs b, ops[j]? = some o → o.op ≠ .select cs b) {i : Nat} {o : Oper} (hi : ops[i]? = some o) (s2 : List (Nat × Nat)) : ∀ (s1 : List (Nat × Nat)) (a : Act), (∀ p ∈ s1, (p.1 = 0 ∨ p.1 ≥ 3) ∧ ∀ ok, ops[p.2]? = some ok → ok.apart ops o = true) →
    wpQ P ops Q brk fin Mv R C0 (s1 ++ (0, i) :: s2) C a → ∃ v, StrC P ops C0 o v a ∧ wpQ P ops Q brk fin Mv R C0 (s1 ++ s2) C (a.put o.dst v)
  | [], a, _, ⟨o', v, h1, h2, h3⟩ => by
    rw [hi] at h1
    injection h1 with h1
    subst h1
    exact ⟨v, h2, h3⟩
  | (1, k) :: s1, a, hap, h => by have := (hap (1, k) List.mem_cons_self).1; simp at this
  | (2, k) :: s1, a, hap, h => by have := (hap (2, k) List.mem_cons_self).1; simp at this
  | (0, k) :: s1, a, hap, ⟨ok, vk, h1, h2, h3⟩ => by
    obtain ⟨p1, p2, p3⟩ := Oper.apart_spec ((hap (0, k) List.mem_cons_self).2 ok h1)
    obtain ⟨v, g1, g2⟩ := wpQ_float hsel hi s2 s1 _ (fun k' hk' => hap k' (List.mem_cons_of_mem _ hk')) h3
    refine ⟨v, (StrC.put (fun cs b => hsel i o cs b hi) p1).1 g1, ok, vk, h1, (StrC.put (fun cs b => hsel k ok cs b h1) p3).2 h2, ?_⟩
    rw [← Act.put_comm a vk v p2]
    exact g2
  | (n + 3, k) :: s1, a, hap, ⟨ok, vk, h1, h2, h3⟩ => by
    obtain ⟨p1, p2, p3⟩ := Oper.apart_spec ((hap (n + 3, k) List.mem_cons_self).2 ok h1)
    obtain ⟨v, g1, g2⟩ := wpQ_float hsel hi s2 s1 _ (fun k' hk' => hap k' (List.mem_cons_of_mem _ hk')) h3
    refine ⟨v, (StrC.put (fun cs b => hsel i o cs b hi) p1).1 g1, ok, vk, h1, (StrC.put (fun cs b => hsel k ok cs b h1) p3).2 h2, ?_⟩
    rw [← Act.put_comm a vk v p2]
    exact g2
theorem wpQ_float3 {m : Nat} {C : World → Prop} (hsel : ∀ (j : Nat) (o : Oper) cs b, ops[j]? = some o → o.op ≠ .select cs b) {i : Nat} {o : Oper} (hi : ops[i]? = some o) (s2 : List (Nat × Nat)) : ∀ (s1 : List (Nat × Nat)) (a : Act), (∀ p ∈ s1, (p.1 = 0 ∨ p.1 ≥ 3) ∧ ∀ ok, ops[p.2]? = some ok → ok.apart ops o = true) →
    wpQ P ops Q brk fin Mv R C0 (s1 ++ (m + 3, i) :: s2) C a → ∃ v, StrC P ops C o v a ∧ wpQ P ops Q brk fin Mv R C0 (s1 ++ s2) C (a.put o.dst v)
  | [], a, _, ⟨o', v, h1, h2, h3⟩ => by
    rw [hi] at h1
    injection h1 with h1
    subst h1
    exact ⟨v, h2, h3⟩
  | (1, k) :: s1, a, hap, h => by have := (hap (1, k) List.mem_cons_self).1; simp at this
  | (2, k) :: s1, a, hap, h => by have := (hap (2, k) List.mem_cons_self).1; simp at this
  | (0, k) :: s1, a, hap, ⟨ok, vk, h1, h2, h3⟩ => by
    obtain ⟨p1, p2, p3⟩ := Oper.apart_spec ((hap (0, k) List.mem_cons_self).2 ok h1)
    obtain ⟨v, g1, g2⟩ := wpQ_float3 hsel hi s2 s1 _ (fun k' hk' => hap k' (List.mem_cons_of_mem _ hk')) h3
    refine ⟨v, (StrC.put (fun cs b => hsel i o cs b hi) p1).1 g1, ok, vk, h1, (StrC.put (fun cs b => hsel k ok cs b h1) p3).2 h2, ?_⟩
    rw [← Act.put_comm a vk v p2]
    exact g2
  | (n + 3, k) :: s1, a, hap, ⟨ok, vk, h1, h2, h3⟩ => by
    obtain ⟨p1, p2, p3⟩ := Oper.apart_spec ((hap (n + 3, k) List.mem_cons_self).2 ok h1)
    obtain ⟨v, g1, g2⟩ := wpQ_float3 hsel hi s2 s1 _ (fun k' hk' => hap k' (List.mem_cons_of_mem _ hk')) h3
    refine ⟨v, (StrC.put (fun cs b => hsel i o cs b hi) p1).1 g1, ok, vk, h1, (StrC.put (fun cs b => hsel k ok cs b h1) p3).2 h2, ?_⟩
    rw [← Act.put_comm a vk v p2]
    exact g2
theorem wpQ_stand {C : World → Prop} (hsel : ∀ (j : Nat) (o : Oper) cs b, ops[j]? = some o → o.op ≠ .select cs b) {i : Nat} {o : Oper} (hi : ops[i]? = some o) (s2 : List (Nat × Nat)) : ∀ (s1 : List (Nat × Nat)) (a : Act), (∀ p ∈ s1, p.1 = 0 ∧ ∀ ok, ops[p.2]? = some ok → ok.apart ops o = true) →
    wpQ P ops Q brk fin Mv R C0 (s1 ++ (1, i) :: s2) C a → ∀ X, C X → EffY P ops o X (fun v X' => ∃ C' : World → Prop, C' X' ∧ (i ∈ brk ∨ (i ∈ fin ∧ ∀ Y, C' Y → C0 Y) ∨ ((∀ Y, C' Y → C Y) ∧ Mv X X' ∧ Cl Mv C')) ∧ wpQ P ops Q brk fin Mv R C0 (s1 ++ s2) C' (a.put o.dst v)) a
  | [], a, _, ⟨o', h1, h2⟩ => by
    rw [hi] at h1
    injection h1 with h1
    subst h1
    exact h2
  | (1, k) :: s1, a, hap, h => by have := (hap (1, k) List.mem_cons_self).1; cases this
  | (n + 2, k) :: s1, a, hap, h => by have := (hap (n + 2, k) List.mem_cons_self).1; cases this
  | (0, k) :: s1, a, hap, ⟨ok, vk, h1, h2, h3⟩ => fun X hX => by
    obtain ⟨p1, p2, p3⟩ := Oper.apart_spec ((hap (0, k) List.mem_cons_self).2 ok h1)
    have g := wpQ_stand hsel hi s2 s1 _ (fun k' hk' => hap k' (List.mem_cons_of_mem _ hk')) h3 X hX
    refine EffY.mono (fun v w' ⟨C', c1, c2, c3⟩ => ⟨C', c1, c2, ok, vk, h1, ((StrC.put (fun cs b => hsel k ok cs b h1) p3).2 h2), ?_⟩) ((EffY.put (fun cs b => hsel i o cs b hi) p1).1 g)
    rw [← Act.put_comm a vk v p2]
    exact c3
theorem wpQ_make (hR : ∀ i v, Cl Mv (R i v)) (hsel : ∀ (j : Nat) (o : Oper) cs b, ops[j]? = some o → o.op ≠ .select cs b) {i : Nat} {o : Oper} (hi : ops[i]? = some o) (s2 : List (Nat × Nat)) : ∀ (s1 : List (Nat × Nat)) (a : Act) (C : World → Prop), Cl Mv C → (∀ X, C X → C0 X) → (∃ X, C X) → (∀ p ∈ s1, (p.1 = 1 → p.2 ∉ brk ∧ p.2 ∉ fin) ∧ ∀ ok, ops[p.2]? = some ok → ok.apart ops o = true) →
    wpQ P ops Q brk fin Mv R C0 (s1 ++ (2, i) :: s2) C a → MakY P ops C0 Mv o (R i) a ∧ ∀ v, (∃ X, C X ∧ R i v X) → wpQ P ops Q brk fin Mv R C0 (s1 ++ s2) (fun X => C X ∧ R i v X) (a.put o.dst v)
  | [], a, C, _, _, _, _, ⟨o', h1, h3, h4⟩ => by
    rw [hi] at h1
    injection h1 with h1
    subst h1
    exact ⟨h3, h4⟩
  | (0, k) :: s1, a, C, hC, h0, hx, hap, ⟨ok, vk, h1, h2, h3⟩ => by
    obtain ⟨p1, p2, p3⟩ := Oper.apart_spec ((hap (0, k) List.mem_cons_self).2 ok h1)
    obtain ⟨g1, g2⟩ := wpQ_make hR hsel hi s2 s1 _ C hC h0 hx (fun k' hk' => hap k' (List.mem_cons_of_mem _ hk')) h3
    refine ⟨(MakY.put (fun cs b => hsel i o cs b hi) p1).1 g1, fun v hv => ⟨ok, vk, h1, (StrC.put (fun cs b => hsel k ok cs b h1) p3).2 h2, ?_⟩⟩
    rw [← Act.put_comm a vk v p2]
    exact g2 v hv
  | (1, k) :: s1, a, C, hC, h0, ⟨X0, hX0⟩, hap, ⟨ok, h1, h2⟩ => by
    have hnb := (hap (1, k) List.mem_cons_self).1 rfl
    obtain ⟨p1, p2, p3⟩ := Oper.apart_spec ((hap (1, k) List.mem_cons_self).2 ok h1)
    have ih := fun (vk : Value) (C' : World → Prop) => wpQ_make hR hsel hi s2 s1 (a.put ok.dst vk) C'
    obtain ⟨vk, X1, C1, c1, c2, c4⟩ := (h2 X0 hX0).some
    obtain ⟨s1', m1, k1⟩ := (c2.resolve_left hnb.1).resolve_left fun e => hnb.2 e.1
    have g1 := (ih vk C1 k1 (fun X hX => h0 X (s1' X hX)) ⟨_, c1⟩ (fun k' hk' => hap k' (List.mem_cons_of_mem _ hk')) c4)
    refine ⟨(MakY.put (fun cs b => hsel i o cs b hi) p1).1 g1.1, fun v hv => ⟨ok, h1, fun X hX => (EffY.put (fun cs b => hsel k ok cs b h1) p3).2 (EffY.mono ?_ (h2 X hX.1))⟩⟩
    rintro vk X' ⟨C', c1, c2, c4⟩
    obtain ⟨s1', m1, k1⟩ := (c2.resolve_left hnb.1).resolve_left fun e => hnb.2 e.1
    have g := (ih vk C' k1 (fun X hX => h0 X (s1' X hX)) ⟨_, c1⟩ (fun k' hk' => hap k' (List.mem_cons_of_mem _ hk')) c4).2 v ⟨X', c1, hR i v _ _ hX.2 m1⟩
    refine ⟨fun Y => C' Y ∧ R i v Y, ⟨c1, hR i v _ _ hX.2 m1⟩, .inr (.inr ⟨fun Y hY => ⟨s1' Y hY.1, hY.2⟩, m1, k1.and (hR i v)⟩), ?_⟩
    rw [← Act.put_comm a vk v p2]
    exact g
  | (2, k) :: s1, a, C, hC, h0, ⟨X0, hX0⟩, hap, ⟨ok, h1, h2, h3⟩ => by
    obtain ⟨p1, p2, p3⟩ := Oper.apart_spec ((hap (2, k) List.mem_cons_self).2 ok h1)
    have ih := fun (vk : Value) => wpQ_make hR hsel hi s2 s1 (a.put ok.dst vk) (fun X => C X ∧ R k vk X) (hC.and (hR k vk)) (fun X hX => h0 X hX.1)
    obtain ⟨vk, X1, r1, m1⟩ := (h2 X0 (h0 X0 hX0)).some
    have n1 : ∃ X, C X ∧ R k vk X := ⟨X1, hC _ _ hX0 m1, r1⟩
    have g1 := ih vk n1 (fun k' hk' => hap k' (List.mem_cons_of_mem _ hk')) (h3 vk n1)
    refine ⟨(MakY.put (fun cs b => hsel i o cs b hi) p1).1 g1.1, fun v hv => ⟨ok, h1, (MakY.put (fun cs b => hsel k ok cs b h1) p3).2 h2, fun vk ⟨X, hX⟩ => ?_⟩⟩
    have n2 : ∃ X, C X ∧ R k vk X := ⟨X, hX.1.1, hX.2⟩
    have g := (ih vk n2 (fun k' hk' => hap k' (List.mem_cons_of_mem _ hk')) (h3 vk n2)).2 v ⟨X, ⟨hX.1.1, hX.2⟩, hX.1.2⟩
    rw [← Act.put_comm a vk v p2]
    exact wpQ_mono hR _ _ _ _ (fun Y hY => ⟨⟨hY.1.1, hY.2⟩, hY.1.2⟩) ((hC.and (hR i v)).and (hR k vk)) g
  | (n + 3, k) :: s1, a, C, hC, h0, hx, hap, ⟨ok, vk, h1, h2, h3⟩ => by
    obtain ⟨p1, p2, p3⟩ := Oper.apart_spec ((hap (n + 3, k) List.mem_cons_self).2 ok h1)
    obtain ⟨g1, g2⟩ := wpQ_make hR hsel hi s2 s1 _ C hC h0 hx (fun k' hk' => hap k' (List.mem_cons_of_mem _ hk')) h3
    refine ⟨(MakY.put (fun cs b => hsel i o cs b hi) p1).1 g1, fun v hv => ⟨ok, vk, h1, ((StrC.put (fun cs b => hsel k ok cs b h1) p3).2 h2).mono fun X hX => hX.1, ?_⟩⟩
    rw [← Act.put_comm a vk v p2]
    exact g2 v hv
def lfm (L : Array Bool) (l : List (Nat × Nat)) : List (Nat × Nat) := l.filter fun p => !L.getD p.2 true
theorem lfm_split {T : Nat × Nat → Nat × Nat → Prop} {L : Array Bool} {l : List (Nat × Nat)} {p : Nat × Nat} (hn : (l.map (·.2)).Nodup) (hp : l.Pairwise T) (hi : p ∈ l) (hL : L.getD p.2 true = false) :
    ∃ r1 r2, lfm L l = r1 ++ p :: r2 ∧ lfm (L.setIfInBounds p.2 true) l = r1 ++ r2 ∧ (∀ k ∈ r1, T k p ∧ L.getD k.2 true = false) ∧ ∀ k ∈ r2, T p k := by
  obtain ⟨s, t, rfl⟩ := List.append_of_mem hi
  rw [List.map_append, List.map_cons] at hn
  obtain ⟨_, n2, n3⟩ := List.nodup_append.1 hn
  have n4 := (List.nodup_cons.1 n2).1
  obtain ⟨_, q2, q3⟩ := List.pairwise_append.1 hp
  have hne : ∀ k, k ≠ p.2 → (L.setIfInBounds p.2 true).getD k true = L.getD k true := fun k hk => getD_set_ne true (Ne.symm hk)
  have hself : (L.setIfInBounds p.2 true).getD p.2 true = true := by
    unfold Array.getD
    split
    · simp
    · rfl
  refine ⟨s.filter fun k => !L.getD k.2 true, t.filter fun k => !L.getD k.2 true, ?_, ?_, ?_, ?_⟩
  · unfold lfm
    rw [List.filter_append, List.filter_cons, if_pos (by simp [hL])]
  · unfold lfm
    rw [List.filter_append, List.filter_cons, if_neg (by simp [hself])]
    congr 1
    · exact List.filter_congr fun k hk => by rw [hne k.2 (n3 k.2 (List.mem_map_of_mem hk) p.2 List.mem_cons_self)]
    · exact List.filter_congr fun k hk => by rw [hne k.2 (fun e => n4 (e ▸ List.mem_map_of_mem hk))]
  · intro k hk
    obtain ⟨hk1, hk2⟩ := List.mem_filter.1 hk
    exact ⟨q3 k hk1 p List.mem_cons_self, by simpa using hk2⟩
  · intro k hk
    exact (List.pairwise_cons.1 q2).1 k (List.mem_filter.1 hk).1
def ladMB (ops : Array Oper) (brk fin : List Nat) (p q : Nat × Nat) : Bool :=
  if q.1 = 2 then (if p.1 = 1 && (brk.contains p.2 || fin.contains p.2) then false else edgeB ops p.2 q.2)
  else if q.1 = 1 then (if p.1 = 0 then edgeB ops p.2 q.2 else reachB ops q.2 p.2) && (!brk.contains q.2 || reachB ops q.2 p.2)
  else if p.1 = 0 || p.1 ≥ 3 then edgeB ops p.2 q.2 else reachB ops q.2 p.2 && (q.1 ≥ 3 || !brk.contains p.2)
structure LadMAt (P : Program) (ops : Array Oper) (Q : Exit → Act → World → Prop) (brk fin : List Nat) (Mv : World → World → Prop) (R : Nat → Value → World → Prop) (C0 : World → Prop) (l : List (Nat × Nat)) (L : Array Bool) (A : Act) (w : World) : Prop where
  size : L.size = ops.size
  closed : Closed ops L
  way : ∃ C : World → Prop, C w ∧ ((∀ X, C X → C0 X) ∨ ∀ p ∈ lfm L l, p.1 ≠ 0 ∧ p.1 ≠ 2) ∧ (Cl Mv C ∨ ∀ p ∈ lfm L l, p.1 ≠ 2) ∧ wpQ P ops Q brk fin Mv R C0 (lfm L l) C A
theorem wp_region_ladm {id : Nat} {a : Act} {w : World} (Mv : World → World → Prop) (C0 : World → Prop) (R : Nat → Value → World → Prop) (brk fin : List Nat) (l : List (Nat × Nat)) (hmo : P.follows .mixedOrders = true) (hB : textB ops = true) (hnd : (l.map (·.2)).Nodup) (hcov : ∀ i ∈ List.range ops.size, i ∈ l.map (·.2)) (hin : ∀ p ∈ l, p.2 < ops.size)
    (hp : l.Pairwise (fun p q => ladMB ops brk fin p q = true)) (hR : ∀ i v, Cl Mv (R i v)) (hC : Cl Mv C0) (h0 : C0 w.drew) (h : wpQ P ops Q brk fin Mv R C0 l C0 a) : (Code.region id ops true).wp P Q a w := by
  obtain ⟨hsel, htx⟩ := textB_spec hB
  refine wp_region_inv (I := fun L A X => LadMAt P ops Q brk fin Mv R C0 l L A X) hmo ?h0 ?hs ?he
  case h0 =>
    have hf0 : ∀ k d, k < ops.size → (Array.replicate ops.size false).getD k d = false := fun k d hk => by unfold Array.getD; simp [hk]
    refine ⟨by simp, ?_, C0, h0, .inl fun _ h => h, .inl hC, ?_⟩
    · intro i o ho hi
      rw [hf0 i _ (Array.getElem?_eq_some_iff.1 ho).1] at hi
      cases hi
    · rw [show lfm (Array.replicate ops.size false) l = l from List.filter_eq_self.2 fun p hpm => by simp [hf0 p.2 true (hin p hpm)]]
      exact h
  case hs =>
    intro L A X i o hI ho hl hdeps
    have hil : i < ops.size := (Array.getElem?_eq_some_iff.1 ho).1
    have hsize : (L.setIfInBounds i true).size = ops.size := by simp [hI.size]
    have hclosed := hI.closed.step ho hdeps
    have hap : ∀ k, edgeB ops k i = true → L.getD k true = false → ∀ ok, ops[k]? = some ok → ok.apart ops o = true := by
      intro k hed hk ok hok
      rcases edgeB_spec ho hok hed with ⟨e, he, hbe, rfl⟩ | h2
      · have h3 := hdeps e he hbe
        rw [getD_flip hk] at h3
        cases h3
      · exact h2
    have hwt : ∀ k, reachB ops i k = true → L.getD k true = false → False := fun k hk hk2 => by
      have := reachB_listed hI.closed i k o ho hdeps hk
      rw [getD_flip hk2] at this
      cases this
    obtain ⟨p, hpl, rfl⟩ := List.mem_map.1 (hcov i (by simpa using hil))
    obtain ⟨r1, r2, s1, s2, s3, s4⟩ := lfm_split hnd hp hpl hl
    obtain ⟨C1, hC1, hc0, hcl, hw⟩ := hI.way
    have sub : ∀ q, q ∈ r1 ++ r2 → q ∈ lfm L l := fun q hq => by
      rw [s1]
      rcases List.mem_append.1 hq with hq | hq
      · exact List.mem_append_left _ hq
      · exact List.mem_append_right _ (List.mem_cons_of_mem _ hq)
    have hcl2 : Cl Mv C1 ∨ ∀ q ∈ r1 ++ r2, q.1 ≠ 2 := hcl.imp (fun h => h) fun h9 q hq => h9 q (sub q hq)
    have hc02 : (∀ X, C1 X → C0 X) ∨ ∀ q ∈ r1 ++ r2, q.1 ≠ 0 ∧ q.1 ≠ 2 := hc0.imp (fun h => h) fun h9 q hq => h9 q (sub q hq)
    rw [s1] at hw hcl hc0
    obtain ⟨b, i⟩ := p
    have hr0 : (b = 0 ∨ b ≥ 3) → ∀ q ∈ r1, (q.1 = 0 ∨ q.1 ≥ 3) ∧ ∀ ok, ops[q.2]? = some ok → ok.apart ops o = true := by
      intro hb q hq
      obtain ⟨t1, t2⟩ := s3 q hq
      unfold ladMB at t1
      rw [if_neg (by simp only; omega), if_neg (by simp only; omega)] at t1
      by_cases h9 : q.1 = 0 ∨ q.1 ≥ 3
      · rw [if_pos (by simpa using h9)] at t1
        exact ⟨h9, hap q.2 t1 t2⟩
      · rw [if_neg (by simpa using h9), Bool.and_eq_true] at t1
        exact (hwt _ t1.1 t2).elim
    have hr1 : b = 1 → ∀ q ∈ r1, q.1 = 0 ∧ ∀ ok, ops[q.2]? = some ok → ok.apart ops o = true := by
      intro hb q hq
      obtain ⟨t1, t2⟩ := s3 q hq
      unfold ladMB at t1
      rw [if_neg (by simp only; omega), if_pos hb, Bool.and_eq_true] at t1
      by_cases h9 : q.1 = 0
      · rw [if_pos h9] at t1
        exact ⟨h9, hap q.2 t1.1 t2⟩
      · rw [if_neg h9] at t1
        exact (hwt _ t1.1 t2).elim
    have hr2 : b = 1 → i ∈ brk → r1 = [] := by
      intro hb hbk
      cases hr : r1 with
      | nil => rfl
      | cons q r =>
        exfalso
        obtain ⟨t1, t2⟩ := s3 q (by rw [hr]; exact List.mem_cons_self)
        unfold ladMB at t1
        rw [if_neg (by simp only; omega), if_pos hb, Bool.and_eq_true, Bool.or_eq_true] at t1
        rcases t1.2 with h9 | h9
        · simp [hbk] at h9
        · exact hwt _ h9 t2
    match b, hw, s4, hcl, hc0, hr0, hr1, hr2 with
    | 0, hw, _, _, hc0, hr0, _, _ =>
      have hc0 := hc0.resolve_right fun h9 => (h9 (0, i) (List.mem_append_right _ List.mem_cons_self)).1 rfl
      obtain ⟨v, g1, g2⟩ := wpQ_float hsel ho r2 r1 A (hr0 (.inl rfl)) hw
      exact StrC.wpOp ho (hc0 _ hC1) g1 ⟨hsize, hclosed, C1, hC1, .inl hc0, by rw [s2]; exact hcl2, by rw [s2]; exact g2⟩
    | n + 3, hw, _, _, _, hr0, _, _ =>
      obtain ⟨v, g1, g2⟩ := wpQ_float3 hsel ho r2 r1 A (hr0 (.inr (by omega))) hw
      exact StrC.wpOp ho hC1 g1 ⟨hsize, hclosed, C1, hC1, by rw [s2]; exact hc02, by rw [s2]; exact hcl2, by rw [s2]; exact g2⟩
    | 1, hw, s4, _, _, _, hr1, hr2 =>
      refine EffY.wpOp ho (wpQ_stand hsel ho r2 r1 A (hr1 rfl) hw X hC1) fun v w' ⟨C', c1, c2, c3⟩ => ⟨hsize, hclosed, C', c1, ?_, ?_, by rw [s2]; exact c3⟩
      · rw [s2]
        rcases c2 with c2 | c2 | ⟨c2, _, c5⟩
        · refine .inr fun q hq => ?_
          rw [hr2 rfl c2, List.nil_append] at hq
          have t1 := s4 q hq
          unfold ladMB at t1
          by_cases h9 : q.1 = 2
          · rw [if_pos h9, if_pos (by simp [c2])] at t1
            cases t1
          · refine ⟨fun e0 => ?_, h9⟩
            rw [if_neg h9, if_neg (by omega), if_neg (by simp), Bool.and_eq_true] at t1
            simp [e0, c2] at t1
        · exact .inl c2.2
        · exact hc02.imp (fun h9 Y hY => h9 Y (c2 Y hY)) fun h => h
      · rw [s2]
        rcases c2 with c2 | c2 | ⟨c2, _, c5⟩
        · refine .inr fun q hq => ?_
          rw [hr2 rfl c2, List.nil_append] at hq
          have t1 := s4 q hq
          unfold ladMB at t1
          intro h9
          rw [if_pos h9, if_pos (by simp [c2])] at t1
          cases t1
        · refine .inr fun q hq => ?_
          rcases List.mem_append.1 hq with hq | hq
          · have := (hr1 rfl q hq).1; omega
          · have t1 := s4 q hq
            unfold ladMB at t1
            intro h9
            rw [if_pos h9, if_pos (by simp [c2.1])] at t1
            cases t1
        · exact .inl c5
    | 2, hw, _, hcl, hc0, _, _, _ =>
      have hcl := hcl.resolve_right fun h9 => h9 (2, i) (List.mem_append_right _ List.mem_cons_self) rfl
      have hc0 := hc0.resolve_right fun h9 => (h9 (2, i) (List.mem_append_right _ List.mem_cons_self)).2 rfl
      obtain ⟨g1, g2⟩ := wpQ_make hR hsel ho r2 r1 A C1 hcl hc0 ⟨X, hC1⟩ (fun q hq => by
        obtain ⟨t1, t2⟩ := s3 q hq
        unfold ladMB at t1
        rw [if_pos rfl] at t1
        by_cases h9 : (decide (q.1 = 1) && (brk.contains q.2 || fin.contains q.2)) = true
        · rw [if_pos h9] at t1
          cases t1
        · rw [if_neg h9] at t1
          exact ⟨fun e => ⟨fun hb => h9 (by simp [e, hb]), fun hb => h9 (by simp [e, hb])⟩, hap q.2 t1 t2⟩) hw
      refine EffY.wpOp ho (g1 X (hc0 X hC1)) fun u Y ⟨e2, e3⟩ => ?_
      have hc2 := hcl _ _ hC1 e3
      exact ⟨hsize, hclosed, _, ⟨hc2, e2⟩, .inl fun Y hY => hc0 Y hY.1, .inl (hcl.and (hR i u)), by rw [s2]; exact g2 u ⟨_, hc2, e2⟩⟩
  case he =>
    intro L A X hI hr
    have hall : ∀ n k, k < n → k < ops.size → L.getD k false = true := by
      intro n
      induction n with
      | zero => intro k hk; omega
      | succ n ih =>
        intro k hk hkn
        cases hv : L.getD k false with
        | true => rfl
        | false =>
          exfalso
          have ho : ops[k]? = some ops[k] := Array.getElem?_eq_getElem hkn
          have hmem : k ∈ Region.ready .any ops L := mem_ready.2 ⟨by rw [← getD_flip' (by rw [hI.size]; omega)]; exact hv, ops[k], ho, fun e he hbe => ih e.on (by have := htx k _ ho e he hbe; omega) (by have := htx k _ ho e he hbe; omega)⟩
          rw [hr] at hmem
          cases hmem
    obtain ⟨C1, hC1, _, _, hw⟩ := hI.way
    rw [show lfm L l = [] from List.filter_eq_nil_iff.2 fun p hpm => by
      have := hall (p.2 + 1) p.2 (by omega) (hin p hpm)
      rw [getD_flip' (by rw [hI.size]; exact hin p hpm)] at this
      simp [this]] at hw
    exact hw X hC1
theorem wpQ_nil {C : World → Prop} {a : Act} (h : ∀ w, C w → Q .normal a w) : wpQ P ops Q brk fin Mv R C0 [] C a := h
theorem wpQ_f {C : World → Prop} {a : Act} {i : Nat} {r : List (Nat × Nat)} (o : Oper) (v : Value) (ho : ops[i]? = some o) (hw : Region.wanted o (yielded ops a.tmps) = true) (hr : ∀ X, C0 X → (execOp a.eval o).run P X = .ok (.value v) X) (h : wpQ P ops Q brk fin Mv R C0 r C (a.put o.dst v)) : wpQ P ops Q brk fin Mv R C0 ((0, i) :: r) C a := ⟨o, v, ho, .inl ⟨hw, hr⟩, h⟩
theorem wpQ_g {C : World → Prop} {a : Act} {i : Nat} {r : List (Nat × Nat)} (o : Oper) (v : Value) (ho : ops[i]? = some o) (hw : Region.wanted o (yielded ops a.tmps) = true) (hr : ∀ X, C X → (execOp a.eval o).run P X = .ok (.value v) X) (h : wpQ P ops Q brk fin Mv R C0 r C (a.put o.dst v)) : wpQ P ops Q brk fin Mv R C0 ((3, i) :: r) C a := ⟨o, v, ho, .inl ⟨hw, hr⟩, h⟩
theorem wpQ_m {C : World → Prop} {a : Act} {i : Nat} {r : List (Nat × Nat)} (o : Oper) (ho : ops[i]? = some o) (hw : Region.wanted o (yielded ops a.tmps) = true) (hr : ∀ X, C0 X → ∃ v X', (execOp a.eval o).run P X = .ok (.value v) X' ∧ R i v X' ∧ Mv X X') (h : ∀ v, (∃ X, C X ∧ R i v X) → wpQ P ops Q brk fin Mv R C0 r (fun X => C X ∧ R i v X) (a.put o.dst v)) : wpQ P ops Q brk fin Mv R C0 ((2, i) :: r) C a := ⟨o, ho, fun X hX => .inl ⟨hw, by obtain ⟨v, X', h1, h2⟩ := hr X hX; rw [h1]; exact h2⟩, h⟩
theorem wpQ_call {C : World → Prop} {a : Act} {i : Nat} {r : List (Nat × Nat)} (o : Oper) {f : FuncId} {args : Array Value} (ho : ops[i]? = some o) (hw : Region.wanted o (yielded ops a.tmps) = true) (hr : ∀ X, C X → (execOp a.eval o).run P X = .ok (.enter f args) X)
    (hc : ∀ X, C X → Calls P f args X fun e X' => ∃ v, e = .returned v ∧ ∃ C' : World → Prop, C' X' ∧ (i ∈ brk ∨ (i ∈ fin ∧ ∀ Y, C' Y → C0 Y) ∨ ((∀ Y, C' Y → C Y) ∧ Mv X X' ∧ Cl Mv C')) ∧ wpQ P ops Q brk fin Mv R C0 r C' (a.put o.dst v)) : wpQ P ops Q brk fin Mv R C0 ((1, i) :: r) C a := ⟨o, ho, fun X hX => .inl ⟨hw, by rw [hr X hX]; exact hc X hX⟩⟩
theorem wpQ_to {C : World → Prop} {a : Act} {i : Nat} {r : List (Nat × Nat)} (o : Oper) (ho : ops[i]? = some o) (hw : Region.wanted o (yielded ops a.tmps) = true)
    (h : ∀ X, C X → ∃ v X', (execOp a.eval o).run P X = .ok (.value v) X' ∧ ∃ C' : World → Prop, C' X' ∧ (i ∈ brk ∨ (i ∈ fin ∧ ∀ Y, C' Y → C0 Y) ∨ ((∀ Y, C' Y → C Y) ∧ Mv X X' ∧ Cl Mv C')) ∧ wpQ P ops Q brk fin Mv R C0 r C' (a.put o.dst v)) : wpQ P ops Q brk fin Mv R C0 ((1, i) :: r) C a := ⟨o, ho, fun X hX => .inl ⟨hw, by obtain ⟨v, X', h1, h2⟩ := h X hX; rw [h1]; exact h2⟩⟩
end
end Go.Proofs.YtiakkclabgelfaaDoor
namespace Go.Proofs.YtiakkclabgelfaaDoor
open Go.RowKit Go.BigFrame Go.Maps
set_option linter.unusedVariables false
set_option maxRecDepth 20000
def g3 : Nat → FuncId
  | 1 => 19
  | _ => 51
def bd3 (p : Nat) : Nat → Array Value
  | 1 => #[.pointer (some ⟨p, 0, none⟩)]
  | _ => #[]
def fr3 (c d : Nat) : Nat → Array Value
  | 0 => #[.pointer (some ⟨c, 0, none⟩)]
  | 1 => #[]
  | _ => #[.pointer (some ⟨d, 0, none⟩)]
def s4 {α : Type} (a b c d : α) : Nat → α
  | 0 => a
  | 1 => b
  | 2 => c
  | _ => d
theorem extCl (V : World) : Cl Ext fun X => Ext V X := fun _ _ h k => Ext.trans h k
def mk26 (B i : Nat) (u : Value) (v : Value) (X : World) : Prop := i = 26 → ∃ b, v = .slice (some ⟨b, 0, none⟩) 1 1 ∧ B ≤ b ∧ RowAt b 1 (fun _ => u) X
theorem mk26_cl (B i : Nat) (u v : Value) : Cl Ext (fun X => mk26 B i u v X) := fun X Y h k e => by
  obtain ⟨b, h1, h2, h3⟩ := h e
  exact ⟨b, h1, h2, h3.carry k⟩
set_option maxRecDepth 20000 in
set_option maxHeartbeats 4000000 in
theorem append_ok (j p fi co : Nat) (nu : BitVec 64) (us9 : Nat) (F : Nat → Prop) (N : Nat) (A D : Nat → Nat → BitVec 8) (C : Nat) (v0 : Value) (n : Nat) (bs : Nat → Int) (us : Nat → Value) (ls : Nat → Nat) (fs : Nat → Nat → BitVec 8) (w : World) (hJ : JR j p fi co nu us9 true F N A D C w) (hL : RLs v0 n bs us ls fs w) (hn : n ≤ 4398046511104) (hbi : ∀ i, i < n → okI (bs i)) (hT : TabC w) (hyes : okT nu n bs ls fs) (hfg : ¬ fgL fi co N n bs) (hlen : n ≤ rmN co us9 true) (hC4 : C + 256 ≤ 4398046511104) : Calls Tryd.prog 6 #[.pointer (some ⟨j, 0, none⟩), v0] w fun e w' => e = .returned (.int .i64 0) ∧ ∃ F', JR j p fi co (nu + 1) (us9 + (n + 2)) true F' N (wrN D (fi + 1 + us9) (trF nu (tmK ls fs n) n bs fs) (n + 1)) (wrN (wrN D (fi + 1 + us9) (trF nu (tmK ls fs n) n bs fs) (n + 1)) (fi + 1 + us9 + (n + 1)) (fun _ => trF nu (tmK ls fs n) n bs fs (n + 1)) 1) (C + (n + 1) + 1) w' ∧ Keeps (fun i => F i ∨ i = j) w w' ∧ ∀ b, F' b → F b ∨ w.heap.size ≤ b := by
  have n1 : 1 ≤ n := hyes.1.2.1
  have hrm : n + 3 + us9 ≤ co := by
    have := hJ.co1
    unfold rmN moN at hlen
    rw [if_pos rfl] at hlen
    omega
  have hmo : n ≤ moN co := by
    unfold rmN at hlen
    rw [if_pos rfl] at hlen
    omega
  have hN4 := hJ.dv.n4
  have har := hJ.ar
  have hFl := hideit hJ.dv.lt
  have cN := hJ.co2
  obtain ⟨mm, hmm⟩ : ∃ a, a = n + 2 := ⟨_, rfl⟩
  obtain ⟨la, hla⟩ : ∃ a, a = n + 1 := ⟨_, rfl⟩
  obtain ⟨a0, ha0⟩ : ∃ a, a = fi + 1 := ⟨_, rfl⟩
  obtain ⟨at1, hat1⟩ : ∃ a, a = fi + 1 + us9 := ⟨_, rfl⟩
  obtain ⟨at2, hat2⟩ : ∃ a, a = at1 + la := ⟨_, rfl⟩
  have z1 : IntKind.i64.wrap ((fi : Int) + 1) = (a0 : Int) := by rw [IntKind.wrap_i64]; omega
  have z2 : IntKind.i64.wrap ((a0 : Int) + (us9 : Int)) = (at1 : Int) := by rw [IntKind.wrap_i64]; omega
  have z3 : IntKind.i64.wrap ((mm : Int) - 1) = (la : Int) := by rw [IntKind.wrap_i64]; omega
  have z4 : IntKind.i64.wrap ((at1 : Int) + (la : Int)) = (at2 : Int) := by rw [IntKind.wrap_i64]; omega
  have f1 : ¬ ((moN co : Nat) : Int) < (n : Int) := by omega
  have f2 : ¬ ((rmN co us9 true : Nat) : Int) < (n : Int) := by omega
  replace z1 := hideit z1
  replace z2 := hideit z2
  replace z3 := hideit z3
  replace z4 := hideit z4
  replace f1 := hideit f1
  replace f2 := hideit f2
  replace hmm := hideit hmm
  replace hla := hideit hla
  replace hat1 := hideit hat1
  replace hat2 := hideit hat2
  replace hN4 := hideit hN4
  replace hC4 : Hid (C + la + 1 ≤ 4398046511104) := by have := hla.out; exact hideit (by omega)
  replace har := hideit har
  replace hrm := hideit hrm
  replace cN := hideit cN
  obtain ⟨o, cap, rfl⟩ := hL.form
  have hR := hideit hJ.row
  have hco := hideit (And.intro hJ.co1 hJ.co2)
  replace hbi := hideit hbi
  replace hJ := hideit hJ
  replace hL := hideit hL
  replace hT := hideit hT
  replace hyes := hideit hyes
  replace hfg := hideit hfg
  replace hlen := hideit hlen
  have hE := hideit (Ext.refl w)
  go_enter Tryd.func6, Tryd.ntmps6
  go_upto_region 1 with (fail)
  refine wp_region_lit ?_
  refine xm [some (.pointer (some ⟨j, 0, none⟩))] (by kernel_rfl) (by simp [xr, go_sem]) ?_
  simp only [xw, p0, p1, p2, p3]
  refine wpList_call rfl (by simp [go_sem]) ((jrefusal p fi co nu us9 true j w hR.out).mono ?_)
  rintro e y1 ⟨rfl, h2⟩
  replace h2 : Ext w y1 := by rw [h2]; exact Ext.refl _
  refine ⟨_, rfl, ?_⟩
  simp only [zp0, zp1, zp2, zp3]
  replace hR := hideit (hR.out.carry h2)
  replace hJ := hideit (hJ.out.ext h2)
  replace hL := hideit (hL.out.ext h2)
  replace hT := hideit (hT.out.ext h2)
  replace hE := hideit (Ext.trans hE.out (h2))
  clear h2
  refine xm [some (.int .i64 0)] (by kernel_rfl) (by simp [xr, go_sem]) ?_
  simp only [xw, p0, p1, p2, p3]
  go_upto_region 2 with (fail)
  refine wp_region_lit ?_
  refine xm [some (.int .i64 0), some (.bool false)] (by kernel_rfl) (by simp [xr, go_sem]) ?_
  simp only [xw, p0, p1, p2, p3]
  have h0E := hE
  go_upto_region 4 with (fail)
  refine wp_region_lit ?_
  have m3 : y1.cell? ⟨j, 3, none⟩ = some (.int .u64 (nu.toNat : Int)) := hR.out.1 3 (by decide)
  refine xm [some (.pointer (some ⟨j, 0, none⟩)), some (.pointer (some ⟨j, 0, none⟩)), some (.pointer (some ⟨j, 3, none⟩)), some (.int .u64 (nu.toNat : Int)), some (.slice o n cap)] (by kernel_rfl) (by simp [xr, go_sem, m3]) ?_
  simp only [xw, p0, p1, p2, p3]
  clear m3
  refine wpList_call rfl (by simp [go_sem]) ((blocks_ok nu (.slice o n cap) n bs us ls fs y1 hL.out hbi.out (by omega) hT.out hyes.out).mono ?_)
  rintro e y1 ⟨va, us', rfl, hV, hX1⟩
  refine ⟨_, rfl, ?_⟩
  simp only [zp0, zp1, zp2, zp3]
  replace hR := hideit (hR.out.carry hX1)
  replace hJ := hideit (hJ.out.ext hX1)
  replace hL := hideit (hL.out.ext hX1)
  replace hT := hideit (hT.out.ext hX1)
  replace hE := hideit (Ext.trans hE.out (hX1))
  have hB1 := hideit (Below.size h0E.out)
  clear hX1 h0E
  refine xm [some (.tuple #[va, .int .i64 0]), some (va), some (.int .i64 0), some (va), some (.int .i64 0)] (by kernel_rfl) (by simp [xr, go_sem]) ?_
  simp only [xw, p0, p1, p2, p3]
  obtain ⟨B0, hB0⟩ : ∃ b, b = w.heap.size := ⟨_, rfl⟩
  replace hV := hideit hV
  go_upto_region 5 with (fail)
  refine wp_region_lit ?_
  refine xm [some (.int .i64 0), some (.bool false), some (.bool false), some (.slice o n cap), some (.pointer (some ⟨j, 0, none⟩)), some (.func (.func 24) #[.pointer (some ⟨j, 0, none⟩)] #[])] (by kernel_rfl) (by simp [xr, go_sem]) ?_
  simp only [xw, p0, p1, p2, p3]
  refine wpList_callW rfl (by simp [go_sem]) ((contains_fgn (.slice o n cap) n bs us ls fs y1 j p fi co nu us9 true F N A D C hJ.out hL.out (by omega) false ⟨fun e => (by cases e), fun e => absurd e hfg.out⟩).mono ?_)
  rintro e y4 ⟨rfl, hX5⟩
  refine ⟨_, rfl, ?_⟩
  simp only [zp0, zp1, zp2, zp3]
  replace hR := hideit (hR.out.carry hX5)
  replace hJ := hideit (hJ.out.ext hX5)
  replace hL := hideit (hL.out.ext hX5)
  replace hT := hideit (hT.out.ext hX5)
  replace hV := hideit (hV.out.ext hX5)
  replace hE := hideit (Ext.trans hE.out (hX5))
  clear hX5
  refine xm [some (.bool false)] (by kernel_rfl) (by simp [xr, go_sem]) ?_
  simp only [xw, p0, p1, p2, p3]
  go_upto_region 7 with (fail)
  refine wp_region_lit ?_
  refine xm [some (.slice o n cap), some (.int .i64 (n : Int)), some (.pointer (some ⟨j, 0, none⟩))] (by kernel_rfl) (by simp [xr, go_sem]) ?_
  simp only [xw, p0, p1, p2, p3]
  refine wpList_call rfl (by simp [go_sem]) ((jmost p fi co nu us9 true j y4 hR.out hco.out).mono ?_)
  rintro e y6 ⟨rfl, h7⟩
  replace h7 : Ext y4 y6 := by rw [h7]; exact Ext.refl _
  refine ⟨_, rfl, ?_⟩
  simp only [zp0, zp1, zp2, zp3]
  replace hR := hideit (hR.out.carry h7)
  replace hJ := hideit (hJ.out.ext h7)
  replace hL := hideit (hL.out.ext h7)
  replace hT := hideit (hT.out.ext h7)
  replace hV := hideit (hV.out.ext h7)
  replace hE := hideit (Ext.trans hE.out (h7))
  clear h7
  refine xm [some (.bool false)] (by kernel_rfl) (by simp [xr, go_sem, f1.out]) ?_
  simp only [xw, p0, p1, p2, p3]
  go_upto_region 9 with (fail)
  refine wp_region_lit ?_
  refine xm [some (.slice o n cap), some (.int .i64 (n : Int)), some (.pointer (some ⟨j, 0, none⟩))] (by kernel_rfl) (by simp [xr, go_sem]) ?_
  simp only [xw, p0, p1, p2, p3]
  refine wpList_call rfl (by simp [go_sem]) ((jroom_yes p fi co nu us9 j y6 hR.out hco.out (by have := hrm.out; have := cN.out; omega)).mono ?_)
  rintro e y8 ⟨rfl, hX9⟩
  refine ⟨_, rfl, ?_⟩
  simp only [zp0, zp1, zp2, zp3]
  replace hR := hideit (hR.out.carry hX9)
  replace hJ := hideit (hJ.out.ext hX9)
  replace hL := hideit (hL.out.ext hX9)
  replace hT := hideit (hT.out.ext hX9)
  replace hV := hideit (hV.out.ext hX9)
  replace hE := hideit (Ext.trans hE.out (hX9))
  clear hX9
  refine xm [some (.bool false)] (by kernel_rfl) (by simp [xr, go_sem, f2.out]) ?_
  simp only [xw, p0, p1, p2, p3]
  rw [← hmm.out] at hV
  obtain ⟨vb, vc, rfl, hvb, hvc, _, hVS⟩ := hV.out.own.lies (by have := hmm.out; omega)
  replace hVS := hideit hVS
  obtain ⟨av, hav⟩ : ∃ a : Addr, a = ⟨vb, 0, none⟩ := ⟨_, rfl⟩
  rw [← hav] at hV ⊢
  replace hav := hideit hav
  go_upto_region 11 with (fail)
  replace hR := hideit hR.out.drew
  replace hJ := hideit (hJ.out.ext (Ext.draw (Ext.refl y8)))
  replace hL := hideit (hL.out.ext (Ext.draw (Ext.refl y8)))
  replace hT := hideit (hT.out.ext (Ext.draw (Ext.refl y8)))
  replace hV := hideit (hV.out.ext (Ext.draw (Ext.refl y8)))
  replace hE := hideit (Ext.draw hE.out)
  refine wp_region_lad (fun X => Ext y8.drew X) [(false, 0), (false, 1), (false, 2), (false, 3), (false, 4), (false, 5), (false, 6), (false, 7), (false, 8), (false, 9), (false, 10), (false, 11), (false, 12), (false, 13), (false, 14)] (by kernel_rfl) (by kernel_rfl) (by decide +kernel) (by decide +kernel) (by decide +kernel) (by decide +kernel) (Ext.refl _) ?_
  refine wpX_f _ (.pointer (some ⟨j, 0, none⟩)) rfl rfl (fun X _ => by simp [go_sem]) ?_
  simp only [List.getElem_toArray, List.getElem_cons_zero, Act.put, List.setIfInBounds_toArray, List.set_cons_zero, List.set_cons_succ]
  refine wpX_f _ (.pointer (some ⟨j, 0, none⟩)) rfl rfl (fun X _ => by simp [go_sem]) ?_
  simp only [zp4, zp5, zp6, zp0, zp1, zp2, zp3]
  refine wpX_f _ (.pointer (some ⟨j, 1, none⟩)) rfl rfl (fun X _ => by simp [go_sem]) ?_
  simp only [zp4, zp5, zp6, zp0, zp1, zp2, zp3]
  refine wpX_f _ (.int .i64 (fi : Int)) rfl rfl (fun X hX => by have m10 : X.cell? ⟨j, 1, none⟩ = some (.int .i64 (fi : Int)) := (hR.out.carry hX).1 1 (by decide); simp [go_sem, m10]) ?_
  simp only [zp4, zp5, zp6, zp0, zp1, zp2, zp3]
  refine wpX_f _ (.int .i64 (a0 : Int)) rfl rfl (fun X _ => by simp [go_sem, z1.out]) ?_
  simp only [zp4, zp5, zp6, zp0, zp1, zp2, zp3]
  refine wpX_f _ (.pointer (some ⟨j, 0, none⟩)) rfl rfl (fun X _ => by simp [go_sem]) ?_
  simp only [zp4, zp5, zp6, zp0, zp1, zp2, zp3]
  refine wpX_f _ (.pointer (some ⟨j, 0, none⟩)) rfl rfl (fun X _ => by simp [go_sem]) ?_
  simp only [zp4, zp5, zp6, zp0, zp1, zp2, zp3]
  refine wpX_f _ (.pointer (some ⟨j, 4, none⟩)) rfl rfl (fun X _ => by simp [go_sem]) ?_
  simp only [zp4, zp5, zp6, zp0, zp1, zp2, zp3]
  refine wpX_f _ (.int .i64 (us9 : Int)) rfl rfl (fun X hX => by have m11 : X.cell? ⟨j, 4, none⟩ = some (.int .i64 (us9 : Int)) := (hR.out.carry hX).1 4 (by decide); simp [go_sem, m11]) ?_
  simp only [zp4, zp5, zp6, zp0, zp1, zp2, zp3]
  refine wpX_f _ (.int .i64 (at1 : Int)) rfl rfl (fun X _ => by simp [go_sem, z2.out]) ?_
  simp only [zp4, zp5, zp6, zp0, zp1, zp2, zp3]
  refine wpX_f _ (.slice (some av) mm vc) rfl rfl (fun X _ => by simp [go_sem]) ?_
  simp only [zp4, zp5, zp6, zp0, zp1, zp2, zp3]
  refine wpX_f _ (.int .i64 (mm : Int)) rfl rfl (fun X _ => by simp [go_sem]) ?_
  simp only [zp4, zp5, zp6, zp0, zp1, zp2, zp3]
  refine wpX_f _ (.int .i64 (la : Int)) rfl rfl (fun X _ => by simp [go_sem, z3.out]) ?_
  simp only [zp4, zp5, zp6, zp0, zp1, zp2, zp3]
  refine wpX_f _ (.int .i64 (at1 : Int)) rfl rfl (fun X _ => by simp [go_sem]) ?_
  simp only [zp4, zp5, zp6, zp0, zp1, zp2, zp3]
  refine wpX_f _ (.int .i64 (la : Int)) rfl rfl (fun X _ => by simp [go_sem]) ?_
  simp only [zp4, zp5, zp6, zp0, zp1, zp2, zp3]
  refine wpX_nil ?_
  replace hVS := hideit (hVS.out.carry (Ext.draw (Ext.refl _)))
  generalize y8.drew = V at hR hJ hL hT hV hE hVS ⊢
  have hcell : Hid (∀ X, Ext V X → ∀ q, q < mm → X.cell? (av.add q) = some (us' q)) := fun X hX q hq => by rw [hav.out, addr0]; exact (hVS.out.carry hX).1 q hq
  have hll : Hid (la < mm) := by rw [hla.out, hmm.out]; exact hideit (Nat.lt_succ_self _)
  have hus : Hid (∀ q, q < mm → ∃ o l c, us' q = .slice o l c) := fun q hq => by
    obtain ⟨z, cp, h1, _⟩ := hV.out.byt q hq
    exact ⟨_, _, _, h1⟩
  obtain ⟨zl, cl, hul⟩ : ∃ z cp, us' la = .slice (some ⟨z, 0, none⟩) 512 cp := by
    obtain ⟨z, cp, h1, _⟩ := hV.out.byt la hll.out
    exact ⟨z, cp, h1⟩
  replace hul := hideit hul
  clear hVS hav
  go_upto_region 12 with (fail)
  refine wp_region_ladm Ext (fun X => Ext V X) (fun i v X => mk26 V.heap.size i (.slice (some ⟨zl, 0, none⟩) 512 cl) v X) [29] [] [(0, 0), (0, 1), (0, 2), (0, 3), (0, 4), (0, 5), (0, 6), (0, 7), (0, 8), (0, 10), (0, 11), (0, 12), (0, 13), (0, 14), (0, 15), (0, 16), (0, 17), (0, 18), (0, 19), (0, 20), (0, 21), (0, 22), (0, 23), (0, 24), (0, 25), (1, 9), (2, 26), (1, 27), (1, 28), (1, 29), (3, 30)] (by kernel_rfl) (by kernel_rfl) (by decide +kernel) (by decide +kernel) (by decide +kernel) (by decide +kernel) (fun i v => mk26_cl _ i _ v) (extCl V) ((Ext.refl V).draw) ?_
  refine wpQ_f _ (.pointer (some ⟨j, 0, none⟩)) rfl rfl (fun X hX => by simp [go_sem]) ?_
  simp only [List.getElem_toArray, List.getElem_cons_zero, Act.put, List.setIfInBounds_toArray, List.set_cons_zero, List.set_cons_succ]
  refine wpQ_f _ (.pointer (some ⟨j, 0, none⟩)) rfl rfl (fun X hX => by simp [go_sem]) ?_
  simp only [zp4, zp5, zp6, zp0, zp1, zp2, zp3]
  refine wpQ_f _ (.pointer (some ⟨j, 0, none⟩)) rfl rfl (fun X hX => by simp [go_sem]) ?_
  simp only [zp4, zp5, zp6, zp0, zp1, zp2, zp3]
  refine wpQ_f _ (.pointer (some ⟨j, 0, none⟩)) rfl rfl (fun X hX => by simp [go_sem]) ?_
  simp only [zp4, zp5, zp6, zp0, zp1, zp2, zp3]
  refine wpQ_f _ (.pointer (some ⟨p, 0, none⟩)) rfl rfl (fun X hX => by have e : X.cell? ⟨j, 0, none⟩ = some (.pointer (some ⟨p, 0, none⟩)) := (hR.out.carry hX).1 0 (by decide); simp [go_sem, e]) ?_
  simp only [zp4, zp5, zp6, zp0, zp1, zp2, zp3]
  refine wpQ_f _ (.int .i64 (at1 : Int)) rfl rfl (fun X hX => by simp [go_sem]) ?_
  simp only [zp4, zp5, zp6, zp0, zp1, zp2, zp3]
  refine wpQ_f _ (.slice (some av) mm vc) rfl rfl (fun X hX => by simp [go_sem]) ?_
  simp only [zp4, zp5, zp6, zp0, zp1, zp2, zp3]
  refine wpQ_f _ (.int .i64 (la : Int)) rfl rfl (fun X hX => by simp [go_sem]) ?_
  simp only [zp4, zp5, zp6, zp0, zp1, zp2, zp3]
  refine wpQ_f _ (.slice (some av) la vc) rfl rfl (fun X hX => by have e := run_cut X (lo := some av) (k := mm) (lc := vc) (q := la) (fun e => by cases e) (by have := hll.out; omega); simp [go_sem, e]) ?_
  simp only [zp4, zp5, zp6, zp0, zp1, zp2, zp3]
  refine wpQ_f _ (.pointer (some ⟨j, 0, none⟩)) rfl rfl (fun X hX => by simp [go_sem]) ?_
  simp only [zp4, zp5, zp6, zp0, zp1, zp2, zp3]
  refine wpQ_f _ (.pointer (some ⟨j, 0, none⟩)) rfl rfl (fun X hX => by simp [go_sem]) ?_
  simp only [zp4, zp5, zp6, zp0, zp1, zp2, zp3]
  refine wpQ_f _ (.pointer (some ⟨j, 0, none⟩)) rfl rfl (fun X hX => by simp [go_sem]) ?_
  simp only [zp4, zp5, zp6, zp0, zp1, zp2, zp3]
  refine wpQ_f _ (.pointer (some ⟨p, 0, none⟩)) rfl rfl (fun X hX => by have e : X.cell? ⟨j, 0, none⟩ = some (.pointer (some ⟨p, 0, none⟩)) := (hR.out.carry hX).1 0 (by decide); simp [go_sem, e]) ?_
  simp only [zp4, zp5, zp6, zp0, zp1, zp2, zp3]
  refine wpQ_f _ (.func (.func 19) #[.pointer (some ⟨p, 0, none⟩)] #[]) rfl rfl (fun X hX => by simp [go_sem]) ?_
  simp only [zp4, zp5, zp6, zp0, zp1, zp2, zp3]
  refine wpQ_f _ (.pointer (some ⟨j, 0, none⟩)) rfl rfl (fun X hX => by simp [go_sem]) ?_
  simp only [zp4, zp5, zp6, zp0, zp1, zp2, zp3]
  refine wpQ_f _ (.pointer (some ⟨j, 0, none⟩)) rfl rfl (fun X hX => by simp [go_sem]) ?_
  simp only [zp4, zp5, zp6, zp0, zp1, zp2, zp3]
  refine wpQ_f _ (.pointer (some ⟨j, 0, none⟩)) rfl rfl (fun X hX => by simp [go_sem]) ?_
  simp only [zp4, zp5, zp6, zp0, zp1, zp2, zp3]
  refine wpQ_f _ (.pointer (some ⟨p, 0, none⟩)) rfl rfl (fun X hX => by have e : X.cell? ⟨j, 0, none⟩ = some (.pointer (some ⟨p, 0, none⟩)) := (hR.out.carry hX).1 0 (by decide); simp [go_sem, e]) ?_
  simp only [zp4, zp5, zp6, zp0, zp1, zp2, zp3]
  refine wpQ_f _ (.int .i64 (at1 : Int)) rfl rfl (fun X hX => by simp [go_sem]) ?_
  simp only [zp4, zp5, zp6, zp0, zp1, zp2, zp3]
  refine wpQ_f _ (.int .i64 (la : Int)) rfl rfl (fun X hX => by simp [go_sem]) ?_
  simp only [zp4, zp5, zp6, zp0, zp1, zp2, zp3]
  refine wpQ_f _ (.int .i64 (at2 : Int)) rfl rfl (fun X hX => by simp [go_sem, z4.out]) ?_
  simp only [zp4, zp5, zp6, zp0, zp1, zp2, zp3]
  refine wpQ_f _ (.slice (some av) mm vc) rfl rfl (fun X hX => by simp [go_sem]) ?_
  simp only [zp4, zp5, zp6, zp0, zp1, zp2, zp3]
  refine wpQ_f _ (.int .i64 (la : Int)) rfl rfl (fun X hX => by simp [go_sem]) ?_
  simp only [zp4, zp5, zp6, zp0, zp1, zp2, zp3]
  refine wpQ_f _ (.pointer (some (av.add la))) rfl rfl (fun X hX => by have := hll.out; simp [go_sem, this]) ?_
  simp only [zp4, zp5, zp6, zp0, zp1, zp2, zp3]
  refine wpQ_f _ (.slice (some ⟨zl, 0, none⟩) 512 cl) rfl rfl (fun X hX => by have e := hcell.out X hX la hll.out; rw [hul.out] at e; simp [go_sem, e]) ?_
  simp only [zp4, zp5, zp6, zp0, zp1, zp2, zp3]
  refine wpQ_call _ rfl rfl (fun X hX => by simp [go_sem]) (fun X hX => (writing_any p la vc (at1 : Int) av us' X (by have := hla.out; have := hrm.out; have := cN.out; omega) (fun q hq => hus.out q (Nat.lt_trans hq hll.out)) (fun q hq => hcell.out X hX q (Nat.lt_trans hq hll.out))).mono ?_)
  rintro e X1 ⟨c1, v1, zz1, rfl, a1, a2, a3, a4⟩
  obtain ⟨G1, hG1⟩ : ∃ b, b = X.heap.size := ⟨_, rfl⟩
  rw [← hG1] at a2 a3
  have hG1 : Hid (V.heap.size ≤ G1) := by rw [hG1]; exact hideit (Below.size hX)
  replace a1 := hideit a1
  replace a2 := hideit a2
  replace a3 := hideit a3
  have k1 := hideit (Ext.trans hX a4)
  refine ⟨_, rfl, fun Y => Ext X1 Y, Ext.refl _, .inr (.inr ⟨fun Y hY => Ext.trans k1.out hY, a4, extCl X1⟩), ?_⟩
  clear a4
  simp only [zp4, zp5, zp6, zp0, zp1, zp2, zp3]
  refine wpQ_m _ rfl rfl (fun X hX => ⟨.slice (some ⟨X.heap.size, 0, none⟩) 1 1, X.alloc (.cells #[(.slice (some ⟨zl, 0, none⟩) 512 cl)] 39), by simp [go_sem], fun _ => ⟨_, rfl, Below.size hX, row1_new X (.slice (some ⟨zl, 0, none⟩) 512 cl) 39⟩, (Below.refl _ _).alloc (Nat.le_refl _) _⟩) ?_
  rintro vv ⟨_, _, hvv⟩
  obtain ⟨b26, rfl, h26, _⟩ := hvv rfl
  simp only [zp4, zp5, zp6, zp0, zp1, zp2, zp3]
  refine wpQ_call _ rfl rfl (fun X hX => by simp [go_sem]) (fun X hX => (writing_any p 1 1 (at2 : Int) ⟨b26, 0, none⟩ (fun _ => (.slice (some ⟨zl, 0, none⟩) 512 cl)) X (by decide) (fun q hq => ⟨_, _, _, rfl⟩) (fun q hq => by
    obtain ⟨b', e1, _, e3⟩ := hX.2 rfl
    injection e1 with e1
    injection e1 with e1
    injection e1 with e1
    rw [addr0, e1]
    exact e3.1 q hq)).mono ?_)
  rintro e X2 ⟨c2, v2, zz2, rfl, b1, b2, b3, b4⟩
  obtain ⟨G2, hG2⟩ : ∃ b, b = X.heap.size := ⟨_, rfl⟩
  rw [← hG2] at b2 b3
  have hG2 : Hid (V.heap.size ≤ G2) := by rw [hG2]; exact hideit (Below.size (Ext.trans k1.out hX.1))
  replace b1 := hideit b1
  replace b2 := hideit b2
  replace b3 := hideit b3
  have k2 := hideit (Ext.trans hX.1 b4)
  have m2 := hideit (mk26_cl _ _ _ _ _ _ hX.2 b4)
  refine ⟨_, rfl, fun Y => Ext X2 Y, Ext.refl _, .inr (.inr ⟨fun Y hY => ⟨Ext.trans k2.out hY, mk26_cl _ _ _ _ _ _ m2.out hY⟩, b4, extCl X2⟩), ?_⟩
  clear b4 m2 hX
  simp only [zp4, zp5, zp6, zp0, zp1, zp2, zp3]
  refine wpQ_to _ rfl rfl fun X hX => ?_
  have hrw := hideit (RowAt.newOf X 3 (fnV g3 (bd3 p) (fr3 c1 c2)) 28 #[.func (.func 51) #[] #[.pointer (some ⟨c1, 0, none⟩)], .func (.func 19) #[.pointer (some ⟨p, 0, none⟩)] #[], .func (.func 51) #[] #[.pointer (some ⟨c2, 0, none⟩)]] (fun i hi => by rcases (by omega : i = 0 ∨ i = 1 ∨ i = 2) with rfl | rfl | rfl <;> rfl))
  have kk3 : Ext X (X.alloc (.cells #[.func (.func 51) #[] #[.pointer (some ⟨c1, 0, none⟩)], .func (.func 19) #[.pointer (some ⟨p, 0, none⟩)] #[], .func (.func 51) #[] #[.pointer (some ⟨c2, 0, none⟩)]] 28)) := (Below.refl _ _).alloc (Nat.le_refl _) _
  obtain ⟨lb, hlb⟩ : ∃ b, b = X.heap.size := ⟨_, rfl⟩
  refine ⟨.slice (some ⟨lb, 0, none⟩) 3 3, X.alloc (.cells #[.func (.func 51) #[] #[.pointer (some ⟨c1, 0, none⟩)], .func (.func 19) #[.pointer (some ⟨p, 0, none⟩)] #[], .func (.func 51) #[] #[.pointer (some ⟨c2, 0, none⟩)]] 28), by rw [hlb]; simp [go_sem], ?_⟩
  rw [← hlb] at hrw
  have hlb : Hid (V.heap.size ≤ lb) := by rw [hlb]; exact hideit (Below.size (Ext.trans k1.out (Ext.trans k2.out hX)))
  have k3 := hideit (Ext.trans hX kk3)
  generalize X.alloc (.cells #[.func (.func 51) #[] #[.pointer (some ⟨c1, 0, none⟩)], .func (.func 19) #[.pointer (some ⟨p, 0, none⟩)] #[], .func (.func 51) #[] #[.pointer (some ⟨c2, 0, none⟩)]] 28) = X3 at hrw kk3 k3 ⊢
  refine ⟨fun Y => Ext X3 Y, Ext.refl _, .inr (.inr ⟨fun Y hY => Ext.trans k3.out hY, kk3, extCl X3⟩), ?_⟩
  clear kk3 hX
  simp only [zp4, zp5, zp6, zp0, zp1, zp2, zp3]
  refine wpQ_call (f := 25) (args := #[.pointer (some ⟨j, 0, none⟩), .slice (some ⟨lb, 0, none⟩) 3 3]) _ rfl rfl (fun X hX => by simp [go_sem]) (fun X hX => ?_)
  have e3 := hideit hX
  have e2 := hideit (Ext.trans k3.out hX)
  have e1 := hideit (Ext.trans k2.out e2.out)
  have e0 := hideit (Ext.trans k1.out e1.out)
  clear hX
  have nF : Hid (∀ b, V.heap.size ≤ b → ¬ F b) := fun b hb h => by
    have := hFl.out b h
    have := Below.size hE.out
    omega
  have hby : Hid (∀ q, q < mm → ∃ z cp, us' q = .slice (some ⟨z, 0, none⟩) 512 cp ∧ 512 ≤ cp ∧ LieAt ⟨z, 0, none⟩ 512 (yv (trF nu (tmK ls fs n) n bs fs q)) X ∧ ¬ F z) := fun q hq => by
    obtain ⟨z, cp, h1, h2, h3, _⟩ := hV.out.byt q hq
    have h4 := hV.out.fr q hq z (by rw [h1]; rfl)
    exact ⟨z, cp, h1, h2, h3.carry e0.out, fun h => by
      have := hFl.out z h
      have := hB1.out
      omega⟩
  refine (jdo_ok j p fi co nu us9 true N 3 lb F A D C (s4 A A (wrN D at1 (trF nu (tmK ls fs n) n bs fs) la) (wrN D at1 (trF nu (tmK ls fs n) n bs fs) la)) (s4 D (wrN D at1 (trF nu (tmK ls fs n) n bs fs) la) (wrN D at1 (trF nu (tmK ls fs n) n bs fs) la) (wrN (wrN D at1 (trF nu (tmK ls fs n) n bs fs) la) at2 (fun _ => trF nu (tmK ls fs n) n bs fs la) 1)) (s4 C (C + la) (C + la) (C + la + 1)) g3 (bd3 p) (fr3 c1 c2) X (hJ.out.ext e0.out) (hJ.out.ext e0.out).dv (hrw.out.carry e3.out) (nF.out lb hlb.out) (by decide) (fun i hi args Y => ?_) (fun i hi Y hY => ?_)).mono ?_
  · rcases (by omega : i = 0 ∨ i = 1 ∨ i = 2) with rfl | rfl | rfl
    · exact enter51 _ _
    · exact enter19 _ _
    · exact enter51 _ _
  · rcases (by omega : i = 0 ∨ i = 1 ∨ i = 2) with rfl | rfl | rfl
    · exact wcl_any p c1 la N C at1 us' (trF nu (tmK ls fs n) n bs fs) F A D X Y (a3.out.ext e1.out) (a1.out.carry e1.out) a2.out hY (fun b hb => Nat.lt_of_not_le fun h => nF.out b (Nat.le_trans hG1.out h) hb) (by have := hla.out; have := hrm.out; have := cN.out; omega) (by have := hat1.out; have := hat2.out; have := hla.out; have := hrm.out; have := har.out; omega) (Nat.le_of_succ_le hC4.out) (fun q hq => hby.out q (Nat.lt_trans hq hll.out))
    · exact fl_any hY (Nat.le_of_succ_le hC4.out)
    · exact wcl_any p c2 1 N (C + la) at2 (fun _ => (.slice (some ⟨zl, 0, none⟩) 512 cl)) (fun _ => trF nu (tmK ls fs n) n bs fs la) F (wrN D at1 (trF nu (tmK ls fs n) n bs fs) la) (wrN D at1 (trF nu (tmK ls fs n) n bs fs) la) X Y (b3.out.ext e2.out) (b1.out.carry e2.out) b2.out hY (fun b hb => Nat.lt_of_not_le fun h => nF.out b (Nat.le_trans hG2.out h) hb) (by decide) (by have := hat1.out; have := hat2.out; have := hla.out; have := hrm.out; have := har.out; omega) hC4.out (fun q hq => by have h9 := hby.out la hll.out; rw [hul.out] at h9; exact h9)
  rintro e X9 ⟨rfl, F', q1, q2, q3⟩
  refine ⟨_, rfl, fun Y => Y = X9, rfl, .inl (by simp), ?_⟩
  simp only [zp4, zp5, zp6, zp0, zp1, zp2, zp3]
  refine wpQ_g _ (.int .i64 0) rfl rfl (fun X hX => by simp [go_sem]) ?_
  simp only [zp4, zp5, zp6, zp0, zp1, zp2, zp3]
  refine wpQ_nil fun Y hY => ?_
  subst hY
  replace q1 : JR j p fi co nu us9 true F' N (wrN D at1 (trF nu (tmK ls fs n) n bs fs) la) (wrN (wrN D at1 (trF nu (tmK ls fs n) n bs fs) la) at2 (fun _ => trF nu (tmK ls fs n) n bs fs la) 1) (C + la + 1) Y := q1
  have hs : Hid (∀ b, F' b → F b ∨ w.heap.size ≤ b) := fun b hb => by
    rcases q3 b hb with h | h
    · exact .inl h
    · exact .inr (Nat.le_trans (Below.size (Ext.trans hE.out e0.out)) h)
  have hK : Hid (Keeps (fun i => F i ∨ i = j) w Y) := (Keeps.of_ext (Ext.trans hE.out e0.out)).trans q2 fun i hi => .inl hi
  clear hR hJ hL hT hV hE hcell hus a1 a2 a3 b1 b2 b3 k1 k2 k3 e0 e1 e2 e3 nF hby hrw hlb q2 q3 hG1 hG2 hFl
  have hJ := hideit q1
  have hR := hideit q1.row
  clear q1
  go_upto_region 13 with (fail)
  refine wp_region_lit ?_
  refine xm [some (.int .i64 0), some (.bool false)] (by kernel_rfl) (by simp [xr, go_sem]) ?_
  simp only [xw, p0, p1, p2, p3]
  go_upto_region 15 with (fail)
  refine wp_region_lit ?_
  refine xm [some (.pointer (some ⟨j, 0, none⟩)), some (.slice (some av) mm vc), some (.int .i64 (mm : Int))] (by kernel_rfl) (by simp [xr, go_sem]) ?_
  simp only [xw, p0, p1, p2, p3]
  refine wpList_call rfl (by simp [go_sem]) ((jpass j p fi co nu us9 mm true N F' (wrN D at1 (trF nu (tmK ls fs n) n bs fs) la) (wrN (wrN D at1 (trF nu (tmK ls fs n) n bs fs) la) at2 (fun _ => trF nu (tmK ls fs n) n bs fs la) 1) (C + la + 1) Y hJ.out (by have := hrm.out; have := cN.out; omega) (by have := hmm.out; have := hrm.out; have := cN.out; omega)).mono ?_)
  rintro e Y2 ⟨rfl, hJ2, hK2⟩
  refine ⟨_, rfl, ?_⟩
  simp only [zp0, zp1, zp2, zp3]
  replace hJ2 := hideit hJ2
  replace hK2 := hideit hK2
  go_upto_region 16 with (fail)
  refine wp_region_lit ?_
  refine xm [some (.int .i64 0)] (by kernel_rfl) (by simp [xr, go_sem]) ?_
  simp only [xw, p0, p1, p2, p3]
  go_wp2
  go_ret
  have t1 := hmm.out
  have t2 := hla.out
  have t3 := hat1.out
  have t4 := hat2.out
  subst t1 t2 t3 t4
  exact ⟨rfl, F', hJ2.out, (hK.out.trans hK2.out fun i hi => .inl (.inr hi)), hs.out⟩
end Go.Proofs.YtiakkclabgelfaaDoor
