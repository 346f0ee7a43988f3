/-
  Maps keyed by int whose elements are values of one cell, told by a function on keys: looked up, written, struck, cleared, ranged over; no word of the program. How each of a journal's own blocks begins.
-/
import Derived.Maps.OwnSet
import Derived.Maps.RangeWalk
import Derived.Test.YtiakkclabgelfaaDoorQc1
import Derived.Test.YtiakkclabgelfaaDoorQc16
import Derived.Laws.IdiomStrings
namespace Go.Proofs.YtiakkclabgelfaaDoor
open Go.RowKit Go.Maps Go.ChangeMaps Go.MapKept
def RV (v : Value) : Option (DataW Value × List MemPlace) := some (.held v, [])
def okI (x : Int) : Prop := (Lit.int .i64 x).wf = true
def Tells (D : DataW Value) (m : Int → Option Value) : Prop := ∀ x, okI x → Maps.has D (.int .i64 x) = (m x).isSome ∧ ∀ v, m x = some v → ∀ zd, D.atKey (.int .i64 x) zd = .held v
def MapAt (P : Program) (k : TypeId) (b n : Nat) (m : Int → Option Value) (w : World) : Prop := ∃ D, w.ownsMap P k RV b n D ∧ Tells D m
section
variable {P : Program} {k t e : TypeId} {b n : Nat} {m : Int → Option Value} {w : World}
theorem MapAt.lt (h : MapAt P k b n m w) : b < w.heap.size := h.elim fun _ h => h.1.lt
theorem MapAt.mono (h : MapAt P k b n m w) {n' : Nat} (hn : n ≤ n') : MapAt P k b n' m w := h.elim fun D h => ⟨D, h.1.mono hn, h.2⟩
theorem MapAt.congr {m' : Int → Option Value} (h : MapAt P k b n m w) (hm : ∀ x, okI x → m x = m' x) : MapAt P k b n m' w :=
  h.elim fun D h => ⟨D, h.1, fun x hx => by rw [← hm x hx]; exact h.2 x hx⟩
theorem MapAt.kept {w' : World} {row : Option Nat} (h : MapAt P k b n m w) (hg : w.grownBy w' row) (hne : some b ≠ row) : MapAt P k b n m w' := h.elim fun D h => ⟨D, h.1.kept hg hne, h.2⟩
theorem MapAt.same {w' : World} (h : MapAt P k b n m w) (hb : w'.heap[b]? = w.heap[b]?) : MapAt P k b n m w' := by
  obtain ⟨D, ⟨es, clock, h1, h2⟩, h3⟩ := h
  exact ⟨D, ⟨es, clock, hb.trans h1, h2⟩, h3⟩
theorem map_made (w : World) : MapAt P k w.heap.size 0 (fun _ => none) (w.alloc (.map #[] 0)) :=
  ⟨.map [], World.ownsMap_made w P k RV, fun _ _ => ⟨rfl, fun v h => by cases h⟩⟩
def mset (m : Int → Option Value) (x : Int) (o : Option Value) : Int → Option Value := fun y => if y = x then o else m y
theorem mset_same (m : Int → Option Value) (x : Int) (o : Option Value) : mset m x o x = o := if_pos rfl
theorem mset_other (m : Int → Option Value) {x y : Int} (h : y ≠ x) (o : Option Value) : mset m x o y = m y := if_neg h
theorem held_inj {v : Value} {d : DataW Value} {ps : List MemPlace} (h : RV v = some (d, ps)) : d = .held v := by
  injection h with h
  injection h with h1 h2
  exact h1.symm
theorem Tells.at {D : DataW Value} {v z : Value} {ps : List MemPlace} {x : Int} (h : Tells D m) (hx : okI x) (hv : RV v = some (D.atKey (.int .i64 x) (.held z), ps)) : v = (m x).getD z := by
  have h1 := held_inj hv
  obtain ⟨h2, h3⟩ := h x hx
  cases hm : m x with
  | none =>
    rw [hm] at h2
    rw [atKey_of_not_has h2] at h1
    injection h1 with h1
    exact h1.symm
  | some u =>
    rw [h3 u hm] at h1
    injection h1 with h1
    exact h1.symm
theorem MapAt.look (h : MapAt P k b n m w) (hk : P.underlying k = some (.int .i64)) (ht : P.underlying t = some (.map k e)) {z : Value} (hz : (zeroValue e).run P w = .ok z w) {x : Int} (hx : okI x) :
    (Instr.lookup t (.map (some b)) (.int .i64 x) false).run P w = .ok ((m x).getD z) w := by
  obtain ⟨D, h1, h2⟩ := h
  obtain ⟨v, ps, hrun, hv⟩ := h1.lookup (int_keyed hk) ht hz (zd := .held z) (zp := []) rfl (keyOf_int_mk hk hx)
  rw [hrun, h2.at hx hv]
theorem MapAt.lookOk (h : MapAt P k b n m w) (hk : P.underlying k = some (.int .i64)) (ht : P.underlying t = some (.map k e)) {z : Value} (hz : (zeroValue e).run P w = .ok z w) {x : Int} (hx : okI x) :
    (Instr.lookup t (.map (some b)) (.int .i64 x) true).run P w = .ok (.tuple #[(m x).getD z, .bool (m x).isSome]) w := by
  obtain ⟨D, h1, h2⟩ := h
  obtain ⟨v, ps, hrun, hv⟩ := h1.look_ok (int_keyed hk) ht hz (zd := .held z) (zp := []) rfl (keyOf_int_mk hk hx)
  rw [hrun, h2.at hx hv, (h2 x hx).1]
theorem isKeyI (x : Int) : WideAt.IsKeyLit (Lit.int .i64 x) := trivial
theorem litI_ne {x y : Int} (h : x ≠ y) : (Lit.int .i64 x) ≠ Lit.int .i64 y := fun e => by injection e with _ e; exact h e
theorem MapAt.put (h : MapAt P k b n m w) (hk : P.underlying k = some (.int .i64)) (ht : P.underlying t = some (.map k e)) (hn : n < maxLen) {x : Int} (hx : okI x) (v : Value) :
    ∃ w', (Instr.mapUpdate t (.map (some b)) (.int .i64 x) v).run P w = .ok () w' ∧ MapAt P k b (n + 1) (mset m x (some v)) w' ∧ w.grownBy w' (some b) ∧ w'.heap.size = w.heap.size := by
  obtain ⟨D, h1, h2⟩ := h
  obtain ⟨w', hrun, h3, h4⟩ := h1.store (int_keyed hk) ht hn (keyOf_int_mk hk hx) (d := .held v) (ps := []) rfl
  refine ⟨w', hrun, ⟨_, h3, fun y hy => ?_⟩, h4.grown, ?_⟩
  · by_cases hyx : y = x
    · subst hyx
      rw [mset_same]
      refine ⟨has_put_same h1.isMap (isKeyI _) _, fun u hu zd => ?_⟩
      injection hu with hu
      rw [atKey_put_same h1.isMap (isKeyI _), hu]
    · rw [mset_other _ hyx]
      refine ⟨by rw [has_put_other (litI_ne hyx)]; exact (h2 y hy).1, fun u hu zd => ?_⟩
      rw [atKey_put_other (litI_ne hyx)]
      exact (h2 y hy).2 u hu zd
  · obtain ⟨es, clock, es', clock', _, rfl⟩ := h4
    simp [setBlock]
theorem MapAt.wipe (h : MapAt P k b n m w) (ht : P.underlying t = some (.map k e)) (ty : TypeId) :
    ∃ w', (Builtin.clear_ #[t] ty #[.map (some b)]).run P w = .ok (.tuple #[]) w' ∧ MapAt P k b 0 (fun _ => none) w' ∧ w.grownBy w' (some b) ∧ w'.heap.size = w.heap.size := by
  obtain ⟨D, ⟨es, clock, hb, F, hs, hD⟩, h2⟩ := h
  refine ⟨setBlock w b (.map #[] clock), ?_, ⟨.map [], ⟨#[], clock, heap_setBlock_same hb _, ⟨by simp, MapKept.stamped_empty clock, by simp⟩, Nat.le_refl _, rfl⟩, fun _ _ => ⟨rfl, fun v h => by cases h⟩⟩, ⟨rfl, rfl, rfl, by simp [setBlock], fun i _ hi => heap_setBlock_other hb _ (fun e => hi (by rw [e]))⟩, by simp [setBlock]⟩
  simp [Builtin.clear_, run_underlying ht, MapKept.run_getObj_map hb, MapKept.run_setObj_map _ hb, Result.andThen, setBlock]
def RangeAt (P : Program) (k : TypeId) (b r n : Nat) (m : Int → Option Value) (left : Int → Bool) (cnt : Nat) (w : World) : Prop := ∃ D lf, w.ranges P k RV b r n D lf cnt ∧ Tells D m ∧ ∀ x, okI x → lf (.int .i64 x) = left x
theorem RangeAt.map {r cnt : Nat} {left : Int → Bool} (h : RangeAt P k b r n m left cnt w) : MapAt P k b n m w := by
  obtain ⟨D, lf, h1, h2, _⟩ := h
  exact ⟨D, h1.owns, h2⟩
theorem RangeAt.left_eq {r cnt : Nat} {left : Int → Bool} (h : RangeAt P k b r n m left cnt w) : w.rangeLeft b r = cnt := by
  obtain ⟨D, lf, h1, _⟩ := h
  exact h1.left_eq
theorem RangeAt.lt {r cnt : Nat} {left : Int → Bool} (h : RangeAt P k b r n m left cnt w) : r < w.heap.size := by
  obtain ⟨D, lf, h1, _⟩ := h
  exact h1.lt
theorem RangeAt.kept {r cnt : Nat} {left : Int → Bool} {w' : World} {row : Option Nat} (h : RangeAt P k b r n m left cnt w) (hg : w.grownBy w' row) (hb : some b ≠ row) (hr : some r ≠ row) : RangeAt P k b r n m left cnt w' := by
  obtain ⟨D, lf, h1, h2⟩ := h
  exact ⟨D, lf, h1.kept hg hb hr, h2⟩
theorem RangeAt.congr {r cnt : Nat} {left left' : Int → Bool} (h : RangeAt P k b r n m left cnt w) (hl : ∀ x, okI x → left x = left' x) : RangeAt P k b r n m left' cnt w := by
  obtain ⟨D, lf, h1, h2, h3⟩ := h
  exact ⟨D, lf, h1, h2, fun x hx => (h3 x hx).trans (hl x hx)⟩
theorem MapAt.range (h : MapAt P k b n m w) (hk : P.underlying k = some (.int .i64)) (ht : P.underlying t = some (.map k e)) :
    ∃ w' cnt, (Instr.range t (.map (some b))).run P w = .ok (.pointer (some ⟨w.heap.size, 0, none⟩)) w' ∧ RangeAt P k b w.heap.size n m (fun x => (m x).isSome) cnt w' ∧ w.grownBy w' none ∧ w'.heap.size = w.heap.size + 1 := by
  obtain ⟨D, h1, h2⟩ := h
  obtain ⟨w', hrun, h3, h4, h5⟩ := h1.range (int_keyed hk) ht
  exact ⟨w', _, hrun, ⟨D, _, h3, h2, fun x hx => (h2 x hx).1⟩, h4, h5⟩
theorem sameI (x y : Int) : (Lit.int .i64 x).sameKey (Lit.int .i64 y) = decide (x = y) := by
  by_cases h : x = y
  · subst h
    rw [WideAt.sameKey_self (isKeyI _), decide_eq_true rfl]
  · rw [sameKey_ne (litI_ne h), decide_eq_false h]
theorem RangeAt.next {r cnt : Nat} {left : Int → Bool} (h : RangeAt P k b r n m left cnt w) (hk : P.underlying k = some (.int .i64)) (ty : TypeId) :
    ((∀ x, okI x → left x = false) ∧ (Instr.next (.pointer (some ⟨r, 0, none⟩)) false ty).run P w = .ok (.tuple #[.bool false]) w) ∨
    ∃ x v w' cnt', okI x ∧ left x = true ∧ m x = some v ∧ (Instr.next (.pointer (some ⟨r, 0, none⟩)) false ty).run P w = .ok (.tuple #[.bool true, .int .i64 x, v]) w' ∧
      RangeAt P k b r n m (fun y => left y && !decide (y = x)) cnt' w' ∧ cnt' < cnt ∧ w.grownBy w' (some r) ∧ w'.heap.size = w.heap.size ∧ (Instr.entry (.pointer (some ⟨r, 0, none⟩))).run P w' = .ok (.tuple #[.int .i64 x, v]) w' := by
  obtain ⟨D, lf, h1, h2, h3⟩ := h
  rcases h1.next (int_keyed hk) ty with ⟨_, hl, hrun⟩ | ⟨key, v, kl, y, w', cnt', hkey, hlk, hv, hat, hrun, hrg, hlt, hgr, hsz, hen⟩
  · exact .inl ⟨fun x hx => by rw [← h3 x hx]; exact hl _, hrun⟩
  · obtain ⟨x, rfl, rfl, hwx⟩ := Maps.keyOf_int_inv hk hkey
    have hy : y = (.held v, []) := by
      injection hv with hv
      exact hv.symm
    subst hy
    have hh : m x = some v := by
      obtain ⟨a1, a2⟩ := h2 x hwx
      cases hm : m x with
      | none =>
        rw [hm] at a1
        have := has_true_of_atKey hat
        rw [a1] at this
        cases this
      | some u =>
        have e1 := a2 u hm (.held u)
        rw [hat] at e1
        injection e1 with e1
        rw [e1]
    exact .inr ⟨x, v, w', cnt', hwx, by rw [← h3 x hwx]; exact hlk, hh, hrun, ⟨D, _, hrg, h2, fun z hz => by rw [h3 z hz, sameI]⟩, hlt, hgr, hsz, hen⟩
end
end Go.Proofs.YtiakkclabgelfaaDoor
namespace Go.Proofs.YtiakkclabgelfaaDoor
set_option maxRecDepth 20000
open Go.RowKit Go.BigFrame
def labF (s : ByteArray) (j : Nat) : BitVec 8 := BitVec.ofNat 8 (s.data.getD j 0).toNat
theorem lab_cell (s : ByteArray) (m : Nat) (j : Nat) (hj : j < s.size) : (bytesRow s m)[j]? = some (yv (labF s) j) := by
  have hj' : j < s.data.size := hj
  unfold bytesRow
  rw [Array.getElem?_append_left (by simpa using hj')]
  simp only [Array.getElem?_map, Array.getElem?_eq_getElem hj', Option.map_some, yv, labF, Option.some.injEq, Value.int.injEq, true_and]
  unfold Array.getD
  rw [dif_pos hj']
  have := (s.data[j]).toBitVec.isLt
  simp only [BitVec.toNat_ofNat]
  rw [Nat.mod_eq_of_lt (by simpa using this)]
  rfl
theorem run_label (s : ByteArray) (w : World) : ∃ v X, (convert 9 39 (.string s)).run Tryd.prog w = .ok v X ∧ BV v s.size (labF s) X ∧ Ext w X := by
  refine ⟨_, _, run_bytes_of_string w 9 39 5 s Tryd.underlying9 Tryd.underlying39 Tryd.underlying5, .inr ⟨_, _, rfl, grownCap_ge _ _ _ _, ?_⟩, ?_⟩
  · exact lie_new w.drew s.size _ 5 _ (labF s) (fun j hj => lab_cell s _ j hj)
  · exact Ext.trans (Below.refl _ _).drew ((Below.refl _ _).alloc (Nat.le_refl _) _)
def begF (s : ByteArray) (x : BitVec 64) : Nat → BitVec 8 := catF (labF s) 4 (byB x)
theorem u64_small (x : BitVec 64) : x.toNat / 2 ^ (8 * 8) = 0 := Nat.div_eq_of_lt (by have := x.isLt; simpa using this)
set_option maxRecDepth 20000 in
set_option maxHeartbeats 4000000 in
theorem begin_any (s : ByteArray) (hs4 : s.size = 4) (x : BitVec 64) (w : World) : Calls Tryd.prog 52 #[.string s, .int .u64 (x.toNat : Int)] w fun e w' => ∃ g, e = .returned (.slice (some ⟨g, 0, none⟩) 12 12) ∧ w.heap.size ≤ g ∧ RowAt g 12 (yv (begF s x)) w' ∧ Ext w w' := by
  have kn := hideit (neww_any 12 (labF s) w (by decide))
  have ux := u64_small x
  have hln : ∀ X, (Builtin.lenOf (.string s)).run Tryd.prog X = .ok 4 X := fun X => by show Sem.run Tryd.prog (Builtin.lenOf (.string s)) X = _; unfold Builtin.lenOf; simp [hs4]
  have w12 : IntKind.i64.wrap 12 = 12 := by decide
  go_enter Tryd.func52, Tryd.ntmps52
  go_upto_region 1 with (fail)
  refine wp_region_lit ?_
  refine wpList_run rfl (.string s) (by simp [go_sem]) ?_
  simp only [zp0, zp1, zp2, zp3]
  refine wpList_run rfl (.int .i64 4) (by simp [go_sem, hs4]) ?_
  simp only [zp0, zp1, zp2, zp3]
  refine wpList_run rfl (.int .i64 12) (by simp [go_sem, w12]) ?_
  simp only [zp0, zp1, zp2, zp3]
  refine wpList_call rfl (by simp [go_sem]) ((kn.out).mono ?_)
  rintro e w1 ⟨rfl, hW1, hX1⟩
  refine ⟨_, rfl, ?_⟩
  simp only [zp0, zp1, zp2, zp3]
  refine wpList_run rfl (.pointer (some ⟨w.heap.size, 0, none⟩)) (by simp [go_sem]) ?_
  simp only [zp0, zp1, zp2, zp3]
  clear kn hln
  obtain ⟨c, hc⟩ : ∃ c, c = w.heap.size := ⟨_, rfl⟩
  rw [← hc] at hW1 ⊢
  obtain ⟨v2, w2, cv, hb2, hX2⟩ := run_label s w1
  rw [hs4] at hb2
  obtain ⟨o2, c2, rfl⟩ := hb2.form
  have kb := hideit (wbytes_ok c 12 0 4 (labF s) (labF s) false _ _ (hW1.ext hX2) (by decide) (by decide) hb2)
  have hE2 := Ext.trans hX1 hX2
  go_upto_region 2 with (fail)
  refine wp_region_lit ?_
  refine wpList_run rfl (.pointer (some ⟨c, 0, none⟩)) (by simp [go_sem]) ?_
  simp only [zp0, zp1, zp2, zp3]
  refine wpList_run rfl (.string s) (by simp [go_sem]) ?_
  simp only [zp0, zp1, zp2, zp3]
  refine wpList_to rfl (.slice o2 4 c2) (w2) (by simp [go_sem, cv]) ?_
  simp only [zp0, zp1, zp2, zp3]
  refine wpList_call rfl (by simp [go_sem]) ((kb.out).mono ?_)
  rintro e w3 ⟨rfl, hW3, hB3⟩
  refine ⟨_, rfl, ?_⟩
  simp only [zp0, zp1, zp2, zp3]
  have hW3' : Wr c 12 4 (labF s) false w3 := hW3.congr fun j hj => by unfold catF; rw [if_neg (by omega)]; rfl
  have ku := hideit (wuint_ok c 12 4 8 (labF s) false x w3 hW3' (by decide) (by decide) (by decide) (by decide) ux)
  have hE3 : Ext w w3 := Below.trans hE2 (by rw [← hc]; exact hB3)
  clear kb cv hb2 hW3 hW3' hB3 hX2 hX1 hW1 hE2
  go_upto_region 3 with (fail)
  refine wp_region_lit ?_
  refine wpList_run rfl (.pointer (some ⟨c, 0, none⟩)) (by simp [go_sem]) ?_
  simp only [zp0, zp1, zp2, zp3]
  refine wpList_run rfl (.int .u64 (x.toNat : Int)) (by simp [go_sem]) ?_
  simp only [zp0, zp1, zp2, zp3]
  refine wpList_call rfl (by simp [go_sem]) ((ku.out).mono ?_)
  rintro e w4 ⟨rfl, hW4, hB4⟩
  refine ⟨_, rfl, ?_⟩
  simp only [zp0, zp1, zp2, zp3]
  have kd := hideit (wdone_ok c 12 12 _ w4 hW4 (by decide) (by decide))
  have hE4 : Ext w w4 := Below.trans hE3 (by rw [← hc]; exact hB4)
  clear ku hB4 hE3 hW4
  go_upto_region 4 with (fail)
  refine wp_region_lit ?_
  refine wpList_run rfl (.pointer (some ⟨c, 0, none⟩)) (by simp [go_sem]) ?_
  simp only [zp0, zp1, zp2, zp3]
  refine wpList_call rfl (by simp [go_sem]) ((kd.out).mono ?_)
  rintro e w5 ⟨g, rfl, hg, hR, hX5⟩
  refine ⟨_, rfl, ?_⟩
  simp only [zp0, zp1, zp2, zp3]
  refine wpList_run rfl (.tuple #[.slice (some ⟨g, 0, none⟩) 12 12, .int .i64 0]) (by simp [go_sem]) ?_
  simp only [zp0, zp1, zp2, zp3]
  refine wpList_run rfl (.slice (some ⟨g, 0, none⟩) 12 12) (by simp [go_sem]) ?_
  simp only [zp0, zp1, zp2, zp3]
  refine wpList_run rfl (.int .i64 0) (by simp [go_sem]) ?_
  simp only [zp0, zp1, zp2, zp3]
  refine wpList_run rfl (.slice (some ⟨g, 0, none⟩) 12 12) (by simp [go_sem]) ?_
  simp only [zp0, zp1, zp2, zp3]
  refine wpList_run rfl (.int .i64 0) (by simp [go_sem]) ?_
  simp only [zp0, zp1, zp2, zp3]
  have hR' : Hid (RowAt g 12 (yv (begF s x)) w5) := hR.congr fun j hj => by unfold yv begF padF; rw [if_pos hj]
  have hg' : Hid (w.heap.size ≤ g) := Nat.le_trans (Below.size hE4) hg
  have hE5 := hideit (Ext.trans hE4 hX5)
  clear kd hR hg hX5 hE4 hc
  go_wp2
  go_ret
  exact ⟨g, rfl, hg'.out, hR'.out, hE5.out⟩
end Go.Proofs.YtiakkclabgelfaaDoor
