/-
  A Sorted: a map of texts, told by a list by rising numbers.
-/
import Derived.Test.YtboncdlihgpepaaSd
import Derived.Test.YtboncdlihgpepaaMapV
import Derived.Test.YtboncdlihgpepaaBut
import Derived.Test.YtboncdlihgpepaaSx
import Derived.Test.YtboncdlihgpepaaOwnK
import Derived.Maps.Views
import Derived.Test.YtboncdlihgpepaaOpen
namespace Go.Proofs.Ytboncdlihgpepaa
open Go.RowKit Go.BigFrame Go.Maps Go.ChangeMaps Go.MapKept
set_option linter.unusedVariables false
theorem ownsMap_tight {P : Program} {k : TypeId} {R : Value → Option (DataW Value × List MemPlace)} {b n : Nat} {D : DataW Value} {w : World} (h : w.ownsMap P k R b n D) : w.ownsMap P k R b (Maps.size D) D := by
  obtain ⟨es, clock, h1, h2, h3, h4⟩ := h
  refine ⟨es, clock, h1, h2, ?_, h4⟩
  rw [h4]
  simp [Maps.size, length_sorted]
/-- what a list tells of a number -/
def kvm (L : List KV) : Int → Option Value := fun x => (kget L x).map .string
/-- block b is a map that holds what L holds -/
structure MapL (b : Nat) (L : List KV) (w : World) : Prop where
  map : ∃ D, w.ownsMap Try.prog 3 RV b L.length D ∧ Tells D (kvm L) ∧ Maps.size D = L.length
  ris : Ris L
  keys : ∀ p ∈ L, okI p.1
theorem MapL.at {b : Nat} {L : List KV} {w : World} (h : MapL b L w) : MapAt Try.prog 3 b L.length (kvm L) w := by
  obtain ⟨D, h1, h2, _⟩ := h.map
  exact ⟨D, h1, h2⟩
theorem MapL.lt {b : Nat} {L : List KV} {w : World} (h : MapL b L w) : b < w.heap.size := h.at.lt
theorem MapL.same {b : Nat} {L : List KV} {w w' : World} (h : MapL b L w) (hb : w'.heap[b]? = w.heap[b]?) : MapL b L w' := by
  obtain ⟨⟨D, ⟨es, clock, h1, h2⟩, h3⟩, h4, h5⟩ := h
  exact ⟨⟨D, ⟨es, clock, hb.trans h1, h2⟩, h3⟩, h4, h5⟩
theorem MapL.ext {b : Nat} {L : List KV} {w w' : World} (h : MapL b L w) (k : Ext w w') : MapL b L w' := h.same (Below.block k b h.lt)
theorem MapL.but {b c : Nat} {L : List KV} {w w' : World} (h : MapL b L w) (k : But c w w') (hc : b ≠ c) : MapL b L w' := h.same (k.block b h.lt (by simpa using hc))
theorem kvm_some (L : List KV) (x : Int) : (kvm L x).isSome = (kget L x).isSome := by unfold kvm; cases kget L x <;> rfl
theorem mapL_made (w : World) : MapL w.heap.size [] (w.alloc (.map #[] 0)) := by
  refine ⟨⟨.map [], World.ownsMap_made w Try.prog 3 RV, fun _ _ => ⟨rfl, fun v h => by cases h⟩, rfl⟩, .nil, fun p hp => by cases hp⟩
theorem MapL.put {b : Nat} {L : List KV} {w : World} (h : MapL b L w) (hn : L.length < maxLen) {x : Int} (hx : okI x) (t : ByteArray) :
    ∃ w', (Instr.mapUpdate 81 (.map (some b)) (.int .i64 x) (.string t)).run Try.prog w = .ok () w' ∧ MapL b (kset L x t) w' ∧ But b w w' := by
  obtain ⟨⟨D, h1, h2, h3⟩, h4, h5⟩ := h
  obtain ⟨w', hrun, h6, h7⟩ := h1.store (int_keyed Try.underlying3) Try.underlying81 hn (keyOf_int_mk Try.underlying3 hx) (d := .held (.string t)) (ps := []) rfl
  have hsz : Maps.size (D.put (.int .i64 x) (.held (.string t))) = (kset L x t).length := by
    rw [Maps.size_put (h1.tidy (int_keyed Try.underlying3)), (h2 x hx).1, kvm_some, h3, kset_length h4]
  refine ⟨w', hrun, ⟨⟨_, by rw [← hsz]; exact ownsMap_tight h6, fun y hy => ?_, hsz⟩, h4.set x t, fun p hp => ?_⟩, h7.grown⟩
  · have e : kvm (kset L x t) y = mset (kvm L) x (some (.string t)) y := by
      unfold kvm mset
      rw [kget_set h4]
      split <;> rfl
    rw [e]
    by_cases hyx : y = x
    · subst hyx
      rw [mset_same]
      refine ⟨has_put_same h1.isMap (isKeyI _) _, fun u hu zd => ?_⟩
      have hu' : Value.string t = u := Option.some.inj hu
      rw [atKey_put_same h1.isMap (isKeyI _), hu']
    · rw [mset_other _ hyx]
      refine ⟨by rw [has_put_other (litI_ne hyx)]; exact (h2 y hy).1, fun u hu zd => ?_⟩
      rw [atKey_put_other (litI_ne hyx)]
      exact (h2 y hy).2 u hu zd
  · rcases List.mem_append.1 hp with hp | hp
    · exact h5 p (List.mem_filter.1 hp).1
    · rcases List.mem_cons.1 hp with rfl | hp
      · exact hx
      · exact h5 p (List.mem_filter.1 hp).1
theorem MapL.strike {b : Nat} {L : List KV} {w : World} (h : MapL b L w) {x : Int} (hx : okI x) (ty : TypeId) :
    ∃ w', (Builtin.delete_ #[81, 3] ty #[.map (some b), .int .i64 x]).run Try.prog w = .ok (.tuple #[]) w' ∧ MapL b (kdel L x) w' ∧ But b w w' := by
  obtain ⟨⟨D, h1, h2, h3⟩, h4, h5⟩ := h
  obtain ⟨w', hrun, h6, h7⟩ := h1.drop (int_keyed Try.underlying3) Try.underlying81 (keyOf_int_mk Try.underlying3 hx) ty
  have hsz : Maps.size (D.del (.int .i64 x)) = (kdel L x).length := by
    have e1 := Maps.size_del (k := .int .i64 x) (h1.tidy (int_keyed Try.underlying3))
    have e2 := kdel_length h4 x
    rw [(h2 x hx).1, kvm_some, h3] at e1
    omega
  refine ⟨w', hrun, ⟨⟨_, by rw [← hsz]; exact ownsMap_tight h6, fun y hy => ?_, hsz⟩, h4.del x, fun p hp => h5 p (List.mem_filter.1 hp).1⟩, h7.grown⟩
  have e : kvm (kdel L x) y = mset (kvm L) x none y := by
    unfold kvm mset
    rw [kget_del h4]
    split <;> rfl
  rw [e]
  by_cases hyx : y = x
  · subst hyx
    rw [mset_same]
    exact ⟨has_del_same, fun u hu => by cases hu⟩
  · rw [mset_other _ hyx]
    refine ⟨by rw [has_del_other (litI_ne hyx)]; exact (h2 y hy).1, fun u hu zd => ?_⟩
    rw [atKey_del_other (litI_ne hyx)]
    exact (h2 y hy).2 u hu zd
theorem MapL.wipe {b : Nat} {L : List KV} {w : World} (h : MapL b L w) (ty : TypeId) :
    ∃ w', (Builtin.clear_ #[81] ty #[.map (some b)]).run Try.prog w = .ok (.tuple #[]) w' ∧ MapL b [] w' ∧ But b w w' := by
  obtain ⟨⟨D, ⟨es, clock, hb, F, hs, hD⟩, h2, h3⟩, h4, h5⟩ := h
  refine ⟨setBlock w b (.map #[] clock), ?_, ⟨⟨.map [], ⟨#[], clock, heap_setBlock_same hb _, ⟨by simp, MapKept.stamped_empty clock, by simp⟩, Nat.le_refl _, rfl⟩, fun _ _ => ⟨rfl, fun v h => by cases h⟩, rfl⟩, .nil, fun p hp => by cases hp⟩, ⟨rfl, rfl, rfl, by simp [setBlock], fun i _ hi => heap_setBlock_other hb _ (fun e => hi (by rw [e]))⟩⟩
  simp [Builtin.clear_, run_underlying Try.underlying81, MapKept.run_getObj_map hb, MapKept.run_setObj_map _ hb, Result.andThen, setBlock]
theorem zero9 (w : World) : (zeroValue 9).run Try.prog w = .ok (.string ByteArray.empty) w := by kernel_rfl
theorem MapL.look {b : Nat} {L : List KV} {w : World} (h : MapL b L w) {x : Int} (hx : okI x) :
    (Instr.lookup 81 (.map (some b)) (.int .i64 x) true).run Try.prog w = .ok (.tuple #[.string ((kget L x).getD ByteArray.empty), .bool (kget L x).isSome]) w := by
  have e := h.at.lookOk Try.underlying3 Try.underlying81 (zero9 w) hx
  rw [kvm_some] at e
  have e2 : (kvm L x).getD (.string ByteArray.empty) = .string ((kget L x).getD ByteArray.empty) := by unfold kvm; cases kget L x <;> rfl
  rw [e2] at e
  exact e
theorem MapL.len {b : Nat} {L : List KV} {w : World} (h : MapL b L w) (ty : TypeId) : (Builtin.len_ #[81] ty #[.map (some b)]).run Try.prog w = .ok (.int .i64 (L.length : Int)) w := by
  obtain ⟨D, h1, _, h3⟩ := h.map
  rw [h1.len Try.underlying81, h3]
theorem row1_new (w : World) (v : Value) (t : TypeId) : RowAt w.heap.size 1 (fun _ => v) (w.alloc (.cells #[v] t)) := RowAt.new w 1 (fun _ => v) t
/-- a Sorted in memory -/
structure SoAt (sb mb : Nat) (L : List KV) (w : World) : Prop where
  row : RowAt sb 1 (fun _ => .map (some mb)) w
  map : MapL mb L w
  ne : sb ≠ mb
theorem SoAt.ext {sb mb : Nat} {L : List KV} {w w' : World} (h : SoAt sb mb L w) (k : Ext w w') : SoAt sb mb L w' := ⟨h.row.carry k, h.map.ext k, h.ne⟩
theorem SoAt.but {sb mb c : Nat} {L : List KV} {w w' : World} (h : SoAt sb mb L w) (k : But c w w') (h1 : sb ≠ c) (h2 : mb ≠ c) : SoAt sb mb L w' := ⟨h.row.but k h1, h.map.but k h2, h.ne⟩
end Go.Proofs.Ytboncdlihgpepaa
