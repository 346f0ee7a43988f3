/-
  OpL, Oth, OwnK, Sam, OpS.
-/
import Derived.Test.YtapmheocllicnaaDoorNds
import Derived.Test.YtapmheocllicnaaDoorOpenB
import Derived.Deep.Slices
import Derived.Test.YtapmheocllicnaaDoorPatM
import Derived.Test.YtapmheocllicnaaDoorOwn
import Derived.Test.YtapmheocllicnaaDoorSst
namespace Go.Proofs.YtapmheocllicnaaDoor
open Go.ChangeShapes Go.WideShapes Go.ChangeAt Go.RowKit
set_option maxRecDepth 100000 in
theorem open_dig {H : Type} {enc : TypeId × Value → H} {W : World} {base : Nat} {spare : Nat → Bool} {held : Bool} {n : Nat} {cs : List Value} {x : DataW H × List MemPlace} (h : DataW.trod enc Tryd.prog W base spare held n 25 cs = some x) :
    ∃ f : Nat → BitVec 8, ∀ i, i < 32 → cs[i]? = some (yv f i) := by
  have hc5 : Tryd.prog.cellsOf 5 = 1 := by kernel_rfl
  obtain ⟨xs, m, _, _, _, hxl, hx⟩ := DataW.trod_array Tryd.underlying25 h
  have hall : ∀ i, i < 32 → ∃ b : BitVec 8, cs[i]? = some (.int .u8 (b.toNat : Int)) := by
    intro i hi
    have h1 := hx i hi
    rw [List.getElem?_eq_getElem (by omega)] at h1
    obtain ⟨n, e0, _, w0⟩ := DataW.trod_int Tryd.underlying5 h1
    obtain ⟨b, rfl⟩ := of_wf8 w0
    refine ⟨b, ?_⟩
    rw [hc5] at e0
    have h2 : (List.take 1 (List.drop (i * 1) cs))[0]? = some (.int .u8 (b.toNat : Int)) := by rw [e0]; rfl
    simpa [List.getElem?_take, List.getElem?_drop] using h2
  refine ⟨fun i => if h : i < 32 then (hall i h).choose else 0#8, fun i hi => ?_⟩
  rw [(hall i hi).choose_spec]
  simp only [yv, dif_pos hi]
/-- a list of digests that came in -/
def LArg (v : Value) (W : World) : Prop := ∃ n d, LV v n d W ∧ n ≤ 9223372036854775807
set_option maxRecDepth 100000 in
theorem larg {H : Type} {enc : TypeId × Value → H} {W : World} {r : Reach} {b0 base : Nat} {spare : Nat → Bool} {held : Bool} {v : Value} {d : DataW H} {p : List MemPlace}
    (hv : Value.okWide Tryd.prog W r b0 22 v) (h : DataW.Trod enc Tryd.prog W base spare held 22 v d p) : LArg v W := by
  obtain ⟨a, len, cap, rfl⟩ := okWide_slice Tryd.underlying22 hv
  obtain ⟨fuel, hf⟩ := h
  have hC : Tryd.prog.cellsOf 25 = 32 := by kernel_rfl
  rcases Go.Deep.open_slice Tryd.underlying22 hf with ⟨hcs, _⟩ | ⟨x, l, c, m, n, D, Pl, hcs, _, hl, hm, hmm, _, hx⟩
  · simp [Value.cells] at hcs
    obtain ⟨rfl, rfl, rfl⟩ := hcs
    exact ⟨0, fun _ _ => 0#8, .inl ⟨rfl, rfl⟩, by omega⟩
  · simp [Value.cells] at hcs
    obtain ⟨rfl, rfl, rfl⟩ := hcs
    have hlt : x.block < W.heap.size := by
      simp only [Value.okWide, Tryd.underlying22, Cell.okWide, Cell.ok] at hv
      exact has_lt hv.2.2
    have hlm : len ≤ m := by rw [hmm]; split <;> omega
    have each : ∀ i, i < len → ∃ f : Nat → BitVec 8, ∀ j, j < 32 → W.cell? (x.add (i * 32 + j)) = some (yv f j) := by
      intro i hi
      obtain ⟨cs', h1, h2⟩ := hx i (by omega)
      rw [hC] at h1
      obtain ⟨_, hlen, hcell⟩ := World.cells?_some h1
      obtain ⟨f, hf'⟩ := open_dig h2
      refine ⟨f, fun j hj => ?_⟩
      have e := hcell j (by omega)
      rw [add_add] at e
      rw [e]
      exact hf' j hj
    obtain ⟨q, hq⟩ := Go.Deep.choose_lt each
    refine ⟨len, q, .inr ⟨x, cap, rfl, hl, fun j hj => ?_, hlt⟩, by unfold maxLen at hm; omega⟩
    have e := hq (j / 32) (by omega) (j % 32) (Nat.mod_lt _ (by decide))
    rw [show j / 32 * 32 + j % 32 = j by omega] at e
    exact e
end Go.Proofs.YtapmheocllicnaaDoor

namespace Go.Proofs.YtapmheocllicnaaDoor
open Go.RowKit
/-- the leaves with another one at a place -/
def dch (d : Nat → Nat → BitVec 8) (x : Nat) (leaf : Nat → BitVec 8) (i : Nat) : Nat → BitVec 8 := if i = x then leaf else d i
theorem nodeF_congr (c : BitVec 8) (b b' : Nat → BitVec 8) (l : Nat) (h : ∀ j, j < l → b j = b' j) : nodeF c b l = nodeF c b' l := by
  unfold nodeF
  refine shaF_congr _ _ _ fun j hj => ?_
  unfold nodeT
  by_cases h0 : j = 0
  · rw [if_pos h0, if_pos h0]
  · rw [if_neg h0, if_neg h0]
    by_cases h1 : j = 1
    · rw [if_pos h1, if_pos h1]
    · rw [if_neg h1, if_neg h1, h _ (by omega)]
theorem node_of_dig (f g : Nat → Nat → BitVec 8) (m X : Nat) (h : ∀ i, i ≠ X → f i = g i) (i j : Nat) (hi : i ≠ X / 16) (hj : j < 512) : nodeC f m i j = nodeC g m i j := by
  unfold nodeC
  rw [h (16 * i + j / 32) (by omega)]
theorem dig_other (n : Nat) (d : Nat → Nat → BitVec 8) (x : Nat) (leaf : Nat → BitVec 8) : ∀ q i, i ≠ x / 16 ^ q → digB n (dch d x leaf) q i = digB n d q i
  | 0, i, h => by
    rw [Nat.pow_zero, Nat.div_one] at h
    show dch d x leaf i = d i
    unfold dch
    rw [if_neg h]
  | q + 1, i, h => by
    rw [Nat.pow_succ, ← Nat.div_div_eq_div_mul] at h
    show nodeF _ (nodeC (digB n (dch d x leaf) q) (lcP n q) i) 512 = nodeF _ (nodeC (digB n d q) (lcP n q) i) 512
    exact nodeF_congr _ _ _ _ fun j hj => node_of_dig _ _ _ _ (dig_other n d x leaf q) i j h hj
theorem node_other (n : Nat) (d : Nat → Nat → BitVec 8) (x : Nat) (leaf : Nat → BitVec 8) (q i j : Nat) (hi : i ≠ x / 16 ^ (q + 1)) (hj : j < 512) : nodeB n (dch d x leaf) q i j = nodeB n d q i j := by
  rw [Nat.pow_succ, ← Nat.div_div_eq_div_mul] at hi
  exact node_of_dig _ _ _ _ (dig_other n d x leaf q) i j hi hj
theorem node_path (n : Nat) (d : Nat → Nat → BitVec 8) (x : Nat) (leaf : Nat → BitVec 8) (hx : x < n) (q j : Nat) : pbs n (dch d x leaf) x q j = putF (pbs n d x q) (plc x q) (digB n (dch d x leaf) q (x / 16 ^ q)) j := by
  have hu := up_lt n x hx q
  have ho := dig_other n d x leaf q
  unfold pbs nodeB putF plc
  rw [Nat.pow_succ, ← Nat.div_div_eq_div_mul]
  generalize x / 16 ^ q = X at *
  unfold nodeC
  by_cases h : 32 * (X % 16) ≤ j ∧ j < 32 * (X % 16) + 32
  · rw [if_pos h, show 16 * (X / 16) + j / 32 = X by omega, if_pos hu, show j % 32 = j - 32 * (X % 16) by omega]
  · rw [if_neg h, ho (16 * (X / 16) + j / 32) (by omega)]
end Go.Proofs.YtapmheocllicnaaDoor

namespace Go.Proofs.YtapmheocllicnaaDoor
open Go.RowKit Go.BigFrame
/-- facts on the element's type: K cells, B bytes -/
structure ElemK (P : Program) (t e : TypeId) (K B : Nat) : Prop where
  slice : P.underlying t = some (.slice e)
  info : ∃ i z, P.info? e = some i ∧ i.zero = some z ∧ i.size = K ∧ i.bytes = B ∧ z.cells.size = K
theorem elem_k {P : Program} {t e : TypeId} {K B : Nat} (hs : P.underlying t = some (.slice e)) (h1 : (P.info? e).map (·.size) = some K) (h2 : (P.info? e).map (·.bytes) = some B) (h3 : ((P.info? e).bind (·.zero)).map (·.cells.size) = some K) : ElemK P t e K B := by
  refine ⟨hs, ?_⟩
  cases hi : P.info? e with
  | none => rw [hi] at h1; cases h1
  | some i =>
    rw [hi] at h1 h2 h3
    simp only [Option.map_some, Option.some.injEq, Option.bind_some] at h1 h2 h3
    cases hz : i.zero with
    | none => rw [hz] at h3; cases h3
    | some z =>
      rw [hz] at h3
      simp only [Option.map_some, Option.some.injEq] at h3
      exact ⟨i, z, rfl, hz, h1, h2, h3⟩
/-- n elements of K cells, told by g over the cells, in a block at or behind base -/
def OwnK (K base : Nat) (e : TypeId) (v : Value) (n : Nat) (g : Nat → Value) (w : World) : Prop := w.ownsRow base e K v n (row (n * K) g)
section
variable {K base : Nat} {e : TypeId} {v : Value} {n B : Nat} {g g' : Nat → Value} {w w' : World}
theorem OwnK.congr (h : OwnK K base e v n g w) (hg : ∀ j, j < n * K → g j = g' j) : OwnK K base e v n g' w := by
  unfold OwnK at h ⊢
  rw [← row_ext hg]
  exact h
theorem OwnK.ext (h : OwnK K base e v n g w) (k : Ext w w') : OwnK K base e v n g w' :=
  World.ownsRow.kept (row := none) h ⟨Below.os k, Below.tape k, Below.output k, Below.size k, fun i hi _ => Below.block k i hi⟩ (by cases v.ownBlock <;> simp)
theorem OwnK.but {c : Nat} (h : OwnK K base e v n g w) (k : But c w w') (hc : v.ownBlock ≠ some c) : OwnK K base e v n g w' := World.ownsRow.kept h k (.inr hc)
theorem OwnK.kept {row : Option Nat} (h : OwnK K base e v n g w) (hg : w.grownBy w' row) (hne : v.ownBlock = none ∨ v.ownBlock ≠ row) : OwnK K base e v n g w' := World.ownsRow.kept h hg hne
theorem OwnK.lt (h : OwnK K base e v n g w) : ∀ k, v.ownBlock = some k → base ≤ k ∧ k < w.heap.size := World.ownsRow.lt h
theorem OwnK.form (h : OwnK K base e v n g w) : ∃ o cp, v = .slice o n cp := by
  rcases h.2 with ⟨h1, h0⟩ | ⟨k, cap, cur, hv, _⟩
  · exact ⟨none, 0, by rw [h1, h0]⟩
  · exact ⟨_, _, hv⟩
theorem ownK_nil (w : World) (K base : Nat) (e : TypeId) (g : Nat → Value) : OwnK K base e (.slice none 0 0) 0 g w := by
  unfold OwnK
  rw [Nat.zero_mul]
  exact World.ownsRow_nil w base e K
/-- where it lies -/
theorem OwnK.lies (h : OwnK K base e v n g w) (hn : 0 < n) : ∃ b cap, v = .slice (some ⟨b, 0, none⟩) n cap ∧ base ≤ b ∧ n ≤ cap ∧ cap ≤ maxLen ∧ RowAt b (n * K) g w := by
  have h0 := h
  rcases h.2 with ⟨_, h2⟩ | ⟨b, cap, cur, rfl, hb, hg, hc, hm, _, ht⟩
  · omega
  · refine ⟨b, cap, rfl, hb, hc, hm, fun j hj => ?_, fun j hj => ?_, (Array.getElem?_eq_some_iff.1 hg).1⟩
    · have h1 := World.ownsRow.cells h0 (g := b) rfl j (g j) (row_get (n * K) g j hj)
      have hadd : (⟨b, 0, none⟩ : Addr).add j = ⟨b, j, none⟩ := by unfold Addr.add; split <;> simp_all
      rwa [hadd] at h1
    · simp [World.frozen?, hg]
/-- append of elements that lie somewhere -/
theorem wpList_growK {P : Program} {ops : Array Oper} {rest : List Oper} {o : Oper} {a : Act} {Q : Exit → Act → World → Prop} {t : TypeId} (E : ElemK P t e K B) (hK : 0 < K) (hgd : o.guard = none) (s x : Operand)
    (ho : o.op = .call { callee := .builtin .append, args := #[s, x], argTypes := #[t, t] }) (hs : a.eval s = v) (hown : OwnK K base e v n g w)
    (ad : Addr) (m c : Nat) (u f : Nat → Value) (hx : a.eval x = .slice (some ad) m c) (hl : LieAt ad (m * K) u w) (h1 : ∀ j, j < m * K → (u j).oneCell' = true) (hf1 : ∀ j, j < n * K → g j = f j) (hf2 : ∀ j, j < m * K → u j = f (n * K + j))
    (hbytes : (n + m) * B ≤ 140737488355328) (h63 : n + m ≤ 140737488355328) (hbase : base ≤ w.heap.size)
    (h : ∀ v' w', OwnK K base e v' (n + m) f w' → w.grownBy w' v.ownBlock → wpList P ops Q rest (a.put o.dst v') w') : wpList P ops Q (o :: rest) a w := by
  obtain ⟨i, z, e1, e2, e3, e4, e5⟩ := E.info
  refine wpList_append_own w hgd s x t ho base e i z K B E.slice e1 e2 e3 e4 e5 hK v n (row (n * K) g) hs hown ad m c (row (m * K) u) hx (by rw [row_length]) (fun j w0 hj => ?_) (fun w0 hw0 => ?_) (by unfold maxLen; omega) hbytes hbase fun v' w' h2 h3 _ => h v' w' ?_ h3
  · obtain ⟨hj', rfl⟩ := row_some hj
    exact hl.1 j hj'
  · obtain ⟨j, hj, rfl⟩ := List.mem_map.1 hw0
    exact h1 j (by simpa using hj)
  · unfold OwnK
    rw [row_append (n * K) (m * K) g u f hf1 hf2, ← Nat.add_mul] at h2
    exact h2
end
end Go.Proofs.YtapmheocllicnaaDoor

namespace Go.Proofs.YtapmheocllicnaaDoor
open Go.RowKit Go.BigFrame
set_option maxRecDepth 20000 in
set_option maxHeartbeats 2000000 in
theorem same_true (k : Nat) (va vb : Value) (us us2 : Nat → Value) (ls : Nat → Nat) (bs bs2 : Nat → Nat → BitVec 8) (w : World) (hA : Parts va k us ls bs w) (hB : Parts vb k us2 ls bs2 w) (heq : ∀ i, i < k → ∀ j, j < ls i → bs i j = bs2 i j) (hk : k ≤ 140737488355328) :
    Calls Tryd.prog 16 #[va, vb] w fun e w' => e = .returned (.bool true) ∧ Ext w w' := by
  obtain ⟨ao, ac, rfl⟩ := hA.form
  obtain ⟨bo, bc, rfl⟩ := hB.form
  replace hA := hideit hA
  replace hB := hideit hB
  replace heq := hideit heq
  go_enter Tryd.func16, Tryd.ntmps16
  go_wp2
  go_loopw [5] (fun iv X => ∃ i : Nat, i ≤ k ∧ iv = .int .i64 (i : Int) ∧ Ext w X) (fun iv _ => k - (intOf iv).toNat)
  case atStart => exact ⟨0, Nat.zero_le _, rfl, Ext.refl _⟩
  case round =>
    obtain ⟨i, hi, rfl, hE⟩ := hrel
    replace hE := hideit hE
    by_cases hlt : i < k
    · have i0 : (0 : Int) ≤ (i : Int) := by omega
      have i1 : (i : Int) < (k : Int) := by omega
      obtain ⟨a, rfl, hal⟩ : ∃ a, ao = some a ∧ LieAt a k us w := by
        rcases hA.out.1 with ⟨h, h0⟩ | ⟨a, cap', h, _, h3⟩
        · omega
        · injection h with e1 e2 e3
          exact ⟨a, e1, h3⟩
      obtain ⟨b, rfl, hbl⟩ : ∃ a, bo = some a ∧ LieAt a k us2 w := by
        rcases hB.out.1 with ⟨h, h0⟩ | ⟨a, cap', h, _, h3⟩
        · omega
        · injection h with e1 e2 e3
          exact ⟨a, e1, h3⟩
      have hav := hA.out.2 i hlt
      have hbv := hB.out.2 i hlt
      obtain ⟨s1, hs1⟩ : ∃ s1, s1 = bstr (ls i) (fun t => ((bs i t).toNat : Int)) := ⟨_, rfl⟩
      have hs2 : s1 = bstr (ls i) (fun t => ((bs2 i t).toNat : Int)) := by
        rw [hs1]
        exact bstr_congr fun j hj => by rw [heq.out i hlt j hj]
      obtain ⟨xo, xc, hxu⟩ := hav.form
      obtain ⟨yo, yc, hyu⟩ := hbv.form
      have hdr : Ext w wr.drew := Ext.trans hE.out (Ext.refl wr).draw
      have ca : ∀ X, Ext wr.drew X → (convert 23 9 (.slice xo (ls i) xc)).run Tryd.prog X = .ok (.string s1) X := fun X hX => by rw [hs1, ← hxu]; exact convV _ _ _ X (hav.ext (Ext.trans hdr hX))
      have cb : ∀ X, Ext wr.drew X → (convert 23 9 (.slice yo (ls i) yc)).run Tryd.prog X = .ok (.string s1) X := fun X hX => by rw [hs2, ← hyu]; exact convV _ _ _ X (hbv.ext (Ext.trans hdr hX))
      replace hxu := hideit hxu
      replace hyu := hideit hyu
      replace hdr := hideit hdr
      replace hal := hideit hal
      replace hbl := hideit hbl
      clear hs1 hs2 hav hbv
      go_upto_region 6 with (fail)
      refine wp_region_lad (fun X => Ext wr.drew X) [(false, 0), (false, 1), (false, 2), (false, 3), (false, 4), (false, 5), (false, 6), (false, 7), (false, 8), (false, 9), (false, 10)] (by kernel_rfl) (by kernel_rfl) (by decide +kernel) (by decide +kernel) (by decide +kernel) (by decide +kernel) (Ext.refl _) ?_
      refine wpX_f _ (.slice (some a) k ac) rfl rfl (fun X _ => by simp [go_sem]) ?_
      simp only [List.getElem_toArray, List.getElem_cons_zero, Act.put, List.setIfInBounds_toArray, List.set_cons_zero, List.set_cons_succ]
      refine wpX_f _ (.int .i64 (i : Int)) rfl rfl (fun X _ => by simp [go_sem]) ?_
      simp only [List.getElem_toArray, List.getElem_cons_zero, List.getElem_cons_succ, Act.put, List.setIfInBounds_toArray, List.set_cons_zero, List.set_cons_succ]
      refine wpX_f _ (.pointer (some (a.add i))) rfl rfl (fun X _ => by simp [go_sem, i1]) ?_
      simp only [List.getElem_toArray, List.getElem_cons_zero, List.getElem_cons_succ, Act.put, List.setIfInBounds_toArray, List.set_cons_zero, List.set_cons_succ]
      refine wpX_f _ (.slice xo (ls i) xc) rfl rfl (fun X hX => by have e := (hal.out.carry (Ext.trans hdr.out hX)).1 i hlt; rw [hxu.out] at e; simp [go_sem, e]) ?_
      simp only [List.getElem_toArray, List.getElem_cons_zero, List.getElem_cons_succ, Act.put, List.setIfInBounds_toArray, List.set_cons_zero, List.set_cons_succ]
      refine wpX_f _ (.string s1) rfl rfl (fun X hX => by have e := ca X hX; simp [go_sem, e]) ?_
      simp only [List.getElem_toArray, List.getElem_cons_zero, List.getElem_cons_succ, Act.put, List.setIfInBounds_toArray, List.set_cons_zero, List.set_cons_succ]
      refine wpX_f _ (.slice (some b) k bc) rfl rfl (fun X _ => by simp [go_sem]) ?_
      simp only [List.getElem_toArray, List.getElem_cons_zero, List.getElem_cons_succ, Act.put, List.setIfInBounds_toArray, List.set_cons_zero, List.set_cons_succ]
      refine wpX_f _ (.int .i64 (i : Int)) rfl rfl (fun X _ => by simp [go_sem]) ?_
      simp only [List.getElem_toArray, List.getElem_cons_zero, List.getElem_cons_succ, Act.put, List.setIfInBounds_toArray, List.set_cons_zero, List.set_cons_succ]
      refine wpX_f _ (.pointer (some (b.add i))) rfl rfl (fun X _ => by simp [go_sem, i1]) ?_
      simp only [List.getElem_toArray, List.getElem_cons_zero, List.getElem_cons_succ, Act.put, List.setIfInBounds_toArray, List.set_cons_zero, List.set_cons_succ]
      refine wpX_f _ (.slice yo (ls i) yc) rfl rfl (fun X hX => by have e := (hbl.out.carry (Ext.trans hdr.out hX)).1 i hlt; rw [hyu.out] at e; simp [go_sem, e]) ?_
      simp only [List.getElem_toArray, List.getElem_cons_zero, List.getElem_cons_succ, Act.put, List.setIfInBounds_toArray, List.set_cons_zero, List.set_cons_succ]
      refine wpX_f _ (.string s1) rfl rfl (fun X hX => by have e := cb X hX; simp [go_sem, e]) ?_
      simp only [List.getElem_toArray, List.getElem_cons_zero, List.getElem_cons_succ, Act.put, List.setIfInBounds_toArray, List.set_cons_zero, List.set_cons_succ]
      refine wpX_f _ (.bool false) rfl rfl (fun X _ => by simp [go_sem]) ?_
      simp only [List.getElem_toArray, List.getElem_cons_zero, List.getElem_cons_succ, Act.put, List.setIfInBounds_toArray, List.set_cons_zero, List.set_cons_succ]
      refine wpX_nil ?_
      clear ca cb
      go_wp2
      exact ⟨⟨i + 1, by omega, by go_num, hdr.out⟩, by simp [intOf]; omega⟩
    · obtain rfl : i = k := by omega
      have i1 : ¬ (i : Int) < (i : Int) := by omega
      go_wp2
      go_ret
      exact ⟨rfl, hE.out⟩
theorem elem22K : ElemK Tryd.prog 22 25 32 32 := elem_k Tryd.underlying22 (by kernel_rfl) (by kernel_rfl) (by kernel_rfl)
theorem ownK_empty (w : World) (K base : Nat) (e : TypeId) (g : Nat → Value) (hb : base ≤ w.heap.size) : OwnK K base e (.slice (some ⟨w.heap.size, 0, none⟩) 0 0) 0 g (w.alloc (.cells #[] e)) :=
  ⟨by rw [Nat.zero_mul]; rfl, .inr ⟨w.heap.size, 0, #[], rfl, hb, by
    show (w.heap.push (.cells #[] e))[w.heap.size]? = _
    simp, Nat.le_refl _, by unfold maxLen; decide, by simp, by simp [row]⟩⟩
theorem row_change {b n x : Nat} {d : Nat → Nat → BitVec 8} {leaf : Nat → BitVec 8} {w : World} (h : RowAt b (n * 32) (lfV d) w) (hx : x < n) : RowAt b (n * 32) (lfV (dch d x leaf)) (w.setCells b (x * 32) (row 32 (yv leaf))) :=
  (h.part (x * 32) 32 (yv leaf) (by omega)).congr fun j hj => by
    by_cases h1 : x * 32 ≤ j ∧ j < x * 32 + 32
    · rw [if_pos h1]
      unfold lfV dch
      rw [if_pos (by omega), show j % 32 = j - x * 32 by omega]
    · rw [if_neg h1]
      unfold lfV dch
      rw [if_neg (by omega)]
end Go.Proofs.YtapmheocllicnaaDoor

namespace Go.Proofs.YtapmheocllicnaaDoor
open Go.ChangeShapes Go.WideShapes Go.ChangeAt Go.RowKit
theorem bytes25 : Tryd.prog.bytesOf 25 = 32 := by kernel_rfl
/-- a list of digests that came in, and how long it may be -/
def LArgS (v : Value) (W : World) : Prop := ∃ n d, LV v n d W ∧ n * 32 ≤ 140737488351232
theorem larg_s {H : Type} {enc : TypeId × Value → H} {W : World} {r : Reach} {b0 base : Nat} {spare : Nat → Bool} {held : Bool} {v : Value} {d : DataW H} {p : List MemPlace} {ts : List TypeId} {ds : List (DataW H)}
    (hv : Value.okWide Tryd.prog W r b0 22 v) (h : DataW.Trod enc Tryd.prog W base spare held 22 v d p) (hsz : (DataW.weightsEach Tryd.prog ts ds).all (· ≤ reachBytes) = true) (j : Nat) (ht : ts[j]? = some 22) (hd : ds[j]? = some d) : LArgS v W := by
  obtain ⟨n, q, hL, _⟩ := larg hv h
  refine ⟨n, q, hL, ?_⟩
  obtain ⟨fuel, hf⟩ := h
  rcases Go.Deep.open_slice Tryd.underlying22 hf with ⟨hcs, _⟩ | ⟨x, l, c, m, nn, D, Pl, hcs, _, hl, hm, hmm, hx, _⟩
  · obtain ⟨ov, cap, rfl⟩ := hL.form
    simp [Value.cells] at hcs
    omega
  · obtain ⟨ov, cap, rfl⟩ := hL.form
    simp [Value.cells] at hcs
    obtain ⟨rfl, rfl, rfl⟩ := hcs
    obtain ⟨rfl, _⟩ := Prod.mk.inj hx
    have h1 := sized_slice hsz ht hd Tryd.underlying22
    rw [bytes25] at h1
    unfold reachBytes at h1
    simp at h1
    omega
theorem OwnK.lv {base m : Nat} {v : Value} {d : Nat → Nat → BitVec 8} {w : World} (h : OwnK 32 base 25 v m (lfV d) w) : LV v m d w := by
  have h0 := h
  rcases h.2 with ⟨h1, h2⟩ | ⟨b, cap, cur, rfl, hb, hg, hc, hm, _, ht⟩
  · exact .inl ⟨h1, h2⟩
  · refine .inr ⟨⟨b, 0, none⟩, cap, rfl, hc, fun j hj => ?_, (Array.getElem?_eq_some_iff.1 hg).1⟩
    exact World.ownsRow.cells h0 (g := b) rfl j (lfV d j) (row_get (m * 32) (lfV d) j hj)
theorem wpList_growL {ops : Array Oper} {rest : List Oper} {o : Oper} {a : Act} {Q : Exit → Act → World → Prop} {base : Nat} {v : Value} {g : Nat → Value} {w : World} (hgd : o.guard = none) (s x : Operand)
    (ho : o.op = .call { callee := .builtin .append, args := #[s, x], argTypes := #[22, 22] }) (hs : a.eval s = v) (hown : OwnK 32 base 25 v 0 g w)
    (xv : Value) (m : Nat) (d : Nat → Nat → BitVec 8) (hx : a.eval x = xv) (hL : LV xv m d w) (hbytes : m * 32 ≤ 140737488355328) (hbase : base ≤ w.heap.size)
    (h : ∀ v' w', OwnK 32 base 25 v' m (lfV d) w' → w.grownBy w' v.ownBlock → wpList Tryd.prog ops Q rest (a.put o.dst v') w') : wpList Tryd.prog ops Q (o :: rest) a w := by
  rcases hL with ⟨rfl, rfl⟩ | ⟨ad, cap, rfl, h2, h3⟩
  · obtain ⟨i, z, e1, e2, e3, e4, e5⟩ := elem22K.info
    exact wpList_append_own_none hgd s x 22 ho base 25 i 32 elem22K.slice e1 v 0 (row (0 * 32) g) hs hown hx (h v w (hown.congr fun j hj => by omega) (grown_refl _ _))
  · refine wpList_growK (n := 0) elem22K (by decide) hgd s x ho hs hown ad m cap (lfV d) (lfV d) hx h3 (fun _ _ => rfl) (fun j hj => by omega) (fun j hj => by rw [Nat.zero_mul, Nat.zero_add]) (by omega) (by omega) hbase fun v' w' h4 h5 => h v' w' ?_ h5
    rwa [Nat.zero_add] at h4
end Go.Proofs.YtapmheocllicnaaDoor
