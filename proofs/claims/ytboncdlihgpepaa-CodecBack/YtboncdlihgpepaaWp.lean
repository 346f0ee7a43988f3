/-
  Bytes of an Op that came in: what is written of them, how they become a string.
-/
import Derived.Test.YtboncdlihgpepaaWr
import Derived.Test.YtboncdlihgpepaaOpenO
namespace Go.Proofs.Ytboncdlihgpepaa
open Go.RowKit Go.BigFrame
theorem PV.form {v : Value} {l : Nat} {b : Nat → BitVec 8} {w : World} (h : PV v l b w) : ∃ oa cp, v = .slice oa l cp := by
  rcases h with ⟨h, h0⟩ | ⟨a, cap, h, _⟩
  · exact ⟨none, 0, by rw [h, h0]⟩
  · exact ⟨_, _, h⟩
theorem convP (v : Value) (l : Nat) (b : Nat → BitVec 8) (w : World) (h : PV v l b w) : (convert 22 9 v).run Try.prog w = .ok (.string (bstr l fun j => ((b j).toNat : Int))) w := by
  rcases h with ⟨rfl, rfl⟩ | ⟨a, cap, rfl, h2, h3⟩
  · exact convV _ 0 b w (.inl ⟨rfl, rfl⟩)
  · rcases Nat.eq_zero_or_pos l with h0 | h0
    · subst h0
      rw [run_convert_bytes_string w 22 9 5 _ _ _ Try.underlying22 Try.underlying5 Try.underlying9]
      exact run_bytesToString w _ 0 cap [] rfl
    · exact convV _ l b w (.inr ⟨a, cap, rfl, h2, h3, World.block_lt_of_cell? w a (by
        have := h3 0 h0
        rwa [show a.add 0 = a by unfold Addr.add; rw [if_pos rfl]] at this)⟩)
theorem wpList_growP {P : Program} {ops : Array Oper} {rest : List Oper} {o : Oper} {a : Act} {Q : Exit → Act → World → Prop} {t e : TypeId} {base n : Nat} {v : Value} {g : Nat → Value} {w : World} (E : ElemIs P t e) (hgd : o.guard = none) (s x : Operand)
    (ho : o.op = .call { callee := .builtin .append, args := #[s, x], argTypes := #[t, t] }) (hs : a.eval s = v) (hown : OwnB base e v n g w)
    (xv : Value) (l : Nat) (b : Nat → BitVec 8) (f : Nat → Value) (hx : a.eval x = xv) (hb : PV xv l b w) (hf1 : ∀ j, j < n → g j = f j) (hf2 : ∀ j, j < l → yv b j = f (n + j))
    (hbytes : n + l ≤ 140737488355328) (hbase : base ≤ w.heap.size)
    (h : ∀ v' w', OwnB base e v' (n + l) f w' → w.grownBy w' v.ownBlock → wpList P ops Q rest (a.put o.dst v') w') : wpList P ops Q (o :: rest) a w := by
  rcases hb with ⟨rfl, rfl⟩ | ⟨ad, cap, rfl, h2, h3⟩
  · exact wpList_growV E hgd s x ho hs hown _ 0 b f hx (.inl ⟨rfl, rfl⟩) hf1 hf2 hbytes hbase h
  · obtain ⟨i, z, e1, e2, e3, e4, e5⟩ := E.info
    refine wpList_append_own w hgd s x t ho base e i z 1 1 E.slice e1 e2 e3 e4 e5 (by decide) v n (row n g) hs hown ad l cap (row l (yv b)) hx (by rw [row_length]; omega) (fun j w0 hj => ?_) (fun w0 hw0 => ?_) (by unfold maxLen; omega) (by omega) hbase fun v' w' h4 h5 _ => h v' w' ?_ h5
    · obtain ⟨hj', rfl⟩ := row_some hj
      exact h3 j hj'
    · obtain ⟨j, hj, rfl⟩ := List.mem_map.1 hw0
      rfl
    · unfold OwnB
      rwa [row_append n l g (yv b) f hf1 hf2] at h4
set_option maxRecDepth 20000 in
set_option maxHeartbeats 2000000 in
theorem wbytes_okP (c size n l : Nat) (f b : Nat → BitVec 8) (bad : Bool) (u : Value) (w : World) (h : Wr c size n f bad w) (hn : n + l ≤ size) (hs : size ≤ 16777216) (hb : PV u l b w) :
    Calls Try.prog 23 #[.pointer (some ⟨c, 0, none⟩), u] w fun e w' => e = .returned (.tuple #[]) ∧ Wr c size (n + l) (catF f n b) bad w' ∧ Below c w w' := by
  obtain ⟨ou, cu, rfl⟩ := hb.form
  have hw := hideit h.lt
  replace h := hideit h
  replace hb := hideit hb
  have hn9 : n ≤ size := by omega
  have s0 : (0 : Int) ≤ (l : Int) := by omega
  have s1 : ¬ ((size : Int) - (n : Int) < (l : Int)) := by omega
  go_enter Try.func23, Try.ntmps23
  go_upto_region 3 with (go_at_call 30; refine (wleft_any c size n f bad _ h.out hn9 hs).mono ?_; rintro e w1 ⟨rfl, hE1⟩; replace hE1 := hideit hE1; have h1 := hideit (h.out.ext hE1.out); have hb1 := hideit (hb.out.ext hE1.out); clear h hb)
  obtain ⟨v, hA, hO⟩ := h1.out
  have e1 := hA.bytes
  have g1 := hA.2.1 1 (by decide)
  replace hA := hideit hA
  replace hO := hideit hO
  clear h1
  obtain ⟨ov, cv, rfl⟩ := hO.out.bv.form
  refine wp_region_lit ?_
  refine wpList_run rfl (.pointer (some ⟨c, 0, none⟩)) (by simp [go_sem]) ?_
  simp only [Act.put, List.setIfInBounds_toArray, List.set_cons_zero, List.set_cons_succ]
  refine wpList_run rfl (.pointer (some ⟨c, 0, none⟩)) (by simp [go_sem]) ?_
  simp only [Act.put, List.setIfInBounds_toArray, List.set_cons_zero, List.set_cons_succ]
  refine wpList_run rfl (.pointer (some ⟨c, 0, none⟩)) (by simp [go_sem]) ?_
  simp only [Act.put, List.setIfInBounds_toArray, List.set_cons_zero, List.set_cons_succ]
  refine wpList_run rfl (.pointer (some ⟨c, 1, none⟩)) (by simp [go_sem]) ?_
  simp only [Act.put, List.setIfInBounds_toArray, List.set_cons_zero, List.set_cons_succ]
  refine wpList_run rfl (.slice ov n cv) (by simp [go_sem, e1]) ?_
  simp only [Act.put, List.setIfInBounds_toArray, List.set_cons_zero, List.set_cons_succ]
  refine wpList_run rfl (.slice ou l cu) (by simp [go_sem]) ?_
  simp only [Act.put, List.setIfInBounds_toArray, List.set_cons_zero, List.set_cons_succ]
  refine wpList_growP (n := n) (base := c + 1) elem22 rfl (.tmp 18) (.tmp 19) rfl rfl hO.out (.slice ou l cu) l b (yv (catF f n b)) rfl hb1.out (fun j hj => by simp only [yv]; unfold catF; rw [if_pos hj]) (fun j hj => by simp only [yv]; unfold catF; rw [if_neg (by omega), Nat.add_sub_cancel_left]) (by omega) (by have := hA.out.2.2; omega) ?_
  intro v' X hO' hg'
  obtain ⟨k1, k2, k3⟩ := wr_grown hA.out hO.out hg' hO'
  have e2 := k1.bytes
  have g2 := k1.2.1 1 (by decide)
  obtain ⟨o', c', rfl⟩ := hO'.bv.form
  replace k2 := hideit k2
  replace k3 := hideit (Below.trans (Below.mono hE1.out (by have := hw.out; omega)) k3)
  clear hO' hg' k1 e1 g1 hA hO hb1 hE1
  simp only [Act.put, List.setIfInBounds_toArray, List.set_cons_zero, List.set_cons_succ]
  go_wp2
  exact bodyPost_end (v := .tuple #[]) (by simp [results, Try.results23]) rfl ⟨rfl, k2.out, k3.out⟩
end Go.Proofs.Ytboncdlihgpepaa
