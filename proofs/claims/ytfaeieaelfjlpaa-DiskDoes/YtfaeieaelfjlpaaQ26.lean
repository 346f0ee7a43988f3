/-
  The document's New. The document's Unsure.
-/
import Derived.Test.YtfaeieaelfjlpaaQ25
namespace Go.Proofs.Ytfaeieaelfjlpaa
open Go.RowKit Go.BigFrame Go.Maps
theorem elem59K : ∃ B, B ≤ 4096 ∧ ElemK Try.prog 59 63 2 B := ⟨40, by decide, elem_k Try.underlying59 (by kernel_rfl) (by kernel_rfl) (by kernel_rfl)⟩
def IsT (t : TypeId) (i : Nat) (W : World) : Prop := ∃ cur fz, W.heap[i]? = some (.cells cur t fz)
theorem IsT.unset {t : TypeId} {b : Nat} {W : World} {a : Addr} {v : Value} (h : IsT t b (W.setCell a v)) : IsT t b W := by
  obtain ⟨c, z, h1⟩ := h
  unfold World.setCell at h1
  simp only [Array.getElem?_modify] at h1
  by_cases hp : a.block = b
  · rw [if_pos hp] at h1
    cases ho : W.heap[b]? with
    | none => rw [ho] at h1; cases h1
    | some o =>
      rw [ho] at h1
      cases o with
      | cells cc t zz =>
        simp only [Option.map_some, Option.some.injEq, Obj.cells.injEq] at h1
        obtain ⟨_, rfl, _⟩ := h1
        exact ⟨cc, zz, ho⟩
      | _ => simp at h1
  · rw [if_neg hp] at h1
    exact ⟨c, z, h1⟩
def nwV (v : Value) (j : Nat) : Value := if j = 0 then v else if j = 1 then .bool false else .int .i64 0
def zbV (z : ByteArray) (j : Nat) : Value := if j % 2 = 0 then .string z else .slice none 0 0
structure NwR (W : World) (x : Nat) (z : ByteArray) (v : Value) (k : Nat) (X : World) : Prop where
  st : RowAt x 3 (nwV v) X
  own : OwnK 2 W.heap.size 63 v k (zbV z) X
  vx : v.ownBlock ≠ some x
  ext : Ext W X
  wx : W.heap.size ≤ x
  nx : ¬ IsB x X
  n61 : ¬ IsT 63 x X
theorem NwR.done {W X : World} {x N : Nat} {v : Value} (h : NwR W x (tx fun _ => 0#8) v N X) (h1 : 1 ≤ N) (h2 : N ≤ 4096) : ∃ G R, RdM G x (newS N) false 0 R X ∧ ∀ i, G i → W.heap.size ≤ i := by
  obtain ⟨bb, cap, rfl, hb, hc, _, hr⟩ := h.own.lies h1
  have hxb : x ≠ bb := fun e => h.vx (by rw [e]; rfl)
  refine ⟨fun i => i = x ∨ i = bb, ⟨bb, cap, fun _ => .slice none 0 0⟩, ⟨h.st.congr fun j hj => by rcases (by omega : j = 0 ∨ j = 1 ∨ j = 2) with rfl | rfl | rfl <;> rfl, h2, hc, by decide, hr.congr fun j hj => rfl, fun n hn => own_nil _ _ _ _, .inl rfl, .inr rfl, fun n b hn hb => (by cases hb), hxb, fun n b hn hb => (by cases hb), fun i hi => ?_, h.nx, fun ⟨cur, fz, e⟩ => ?_⟩, fun i hi => ?_⟩
  · rcases hi with rfl | rfl
    · exact h.st.2.2
    · exact hr.2.2
  · obtain ⟨_, ⟨e1, _⟩ | ⟨g', cap', cur', e1, _, e2, _⟩⟩ := h.own
    · cases e1
    · injection e1 with e1
      injection e1 with e1
      injection e1 with e1
      subst e1
      have e2' : X.heap[bb]? = some (.cells cur' 63 (0, 0)) := e2
      rw [e] at e2'
      injection e2' with e2'
      injection e2' with _ e3
      exact absurd e3 (by decide)
  · rcases hi with rfl | rfl
    · exact h.wx
    · exact hb
theorem own_notX {W X Y Z : World} {x k m : Nat} {z : ByteArray} {v v' : Value} {g : Nat → Value} (hO : OwnK 2 W.heap.size 63 v' m g Z) (e : v'.ownBlock = some x) (hst : RowAt x 3 (nwV v) Z) (hI : NwR W x z v k X) (hX : Ext X Y) (hg : Y.grownBy Z v.ownBlock) : False := by
  obtain ⟨_, ⟨e1, _⟩ | ⟨g', cap, cur, e1, _, e2, _⟩⟩ := hO
  · rw [e1] at e
    cases e
  · rw [e1] at e
    have e3 : g' = x := Option.some.inj e
    subst e3
    exact hI.n61 (by
      have h1 := Below.block hX g' hI.st.2.2
      have h2 := hg.block g' (Nat.lt_of_lt_of_le hI.st.2.2 (Below.size hX)) (fun e => hI.vx e.symm)
      exact ⟨_, _, (h1.symm.trans (h2.symm.trans e2))⟩)
theorem NwR.next {W X Y Z : World} {x k : Nat} {z : ByteArray} {v v' : Value} (h : NwR W x z v k X) (hX : Ext X Y) (hg : Y.grownBy Z v.ownBlock) (hO : OwnK 2 W.heap.size 63 v' (k + 1) (zbV z) Z) (hv : v'.ownBlock ≠ some x) (hE : Ext W Z) : NwR W x z v' (k + 1) (Z.setCell ⟨x, 0, none⟩ v') := by
  have hst := (h.st.carry hX).grown hg fun e => h.vx e.symm
  have hl : x < Y.heap.size := Nat.lt_of_lt_of_le h.st.2.2 (Below.size hX)
  have kb := but_setCell Z x 0 v'
  have hbk : Z.heap[x]? = X.heap[x]? := (hg.block x hl fun e => h.vx e.symm).trans (Below.block hX x h.st.2.2)
  refine ⟨(hst.set 0 v').congr fun j hj => by rcases (by omega : j = 0 ∨ j = 1 ∨ j = 2) with rfl | rfl | rfl <;> rfl, hO.but kb hv, hv, Below.trans hE ((Keeps.of_grown (F := fun i => i = x) kb fun b hb => by cases hb; exact .inl rfl).below (Below.size hE) fun i hi => hi ▸ h.wx), h.wx, fun e => ?_, fun e => ?_⟩
  · obtain ⟨cur, fz, e⟩ := e.unset
    rw [hbk] at e
    exact h.nx ⟨cur, fz, e⟩
  · obtain ⟨cur', fz', e'⟩ := e.unset
    rw [hbk] at e'
    exact h.n61 ⟨cur', fz', e'⟩
theorem rnew_bad (n : Int) (hn : n < 1 ∨ 4096 < n) (w : World) : Calls Try.prog 8 #[.int .i64 n] w fun e w' => e = .returned (.tuple #[.pointer none, .int .i64 1]) ∧ w' = w := by
  by_cases h1 : n < 1
  · clear hn
    go_enter Try.func8, Try.ntmps8
    go_wp2
    go_ret2
    exact ⟨rfl, rfl⟩
  · have h2 : 4096 < n := by omega
    clear hn
    go_enter Try.func8, Try.ntmps8
    go_wp2
    go_ret2
    exact ⟨rfl, rfl⟩
set_option maxRecDepth 20000 in
set_option maxHeartbeats 2000000 in
theorem rnew (n : Nat) (h1 : 1 ≤ n) (h2 : n ≤ 4096) (W : World) : Calls Try.prog 8 #[.int .i64 (n : Int)] W fun e w' => ∃ x G R, e = .returned (.tuple #[.pointer (some ⟨x, 0, none⟩), .int .i64 0]) ∧ RdM G x (newS n) false 0 R w' ∧ Ext W w' ∧ ∀ i, G i → W.heap.size ≤ i := by
  have i1 : ¬ (n : Int) < 1 := by omega
  have i2 : ¬ (4096 : Int) < (n : Int) := by omega
  obtain ⟨B, hB, E59⟩ := elem59K
  go_enter Try.func8, Try.ntmps8
  go_upto_region 3 with (fail)
  refine wp_region_lit ?_
  refine wpList_run rfl (.agg #[.slice none 0 0, .bool false, .int .i64 0]) (by simp [go_sem]) ?_
  simp only [Act.put, List.setIfInBounds_toArray, List.set_cons_zero, List.set_cons_succ]
  have hXa : Ext W (W.alloc (.cells #[.slice none 0 0, .bool false, .int .i64 0] 61)) := (Below.refl _ _).alloc (Nat.le_refl _) _
  have hPa : RowAt W.heap.size 3 (nwV (.slice none 0 0)) (W.alloc (.cells #[.slice none 0 0, .bool false, .int .i64 0] 61)) := RowAt.newOf W 3 _ 61 _ fun j hj => by
    rcases (by omega : j = 0 ∨ j = 1 ∨ j = 2) with rfl | rfl | rfl <;> rfl
  have hpa : (W.alloc (.cells #[.slice none 0 0, .bool false, .int .i64 0] 61)).heap[W.heap.size]? = some (.cells #[.slice none 0 0, .bool false, .int .i64 0] 61) := alloc_at _ _
  refine wpList_to rfl (.pointer (some ⟨W.heap.size, 0, none⟩)) (W.alloc (.cells #[.slice none 0 0, .bool false, .int .i64 0] 61)) (by simp [go_sem]) ?_
  simp only [Act.put, List.setIfInBounds_toArray, List.set_cons_zero, List.set_cons_succ]
  generalize W.alloc (.cells #[.slice none 0 0, .bool false, .int .i64 0] 61) = w1 at *
  refine wpList_run rfl (.pointer (some ⟨W.heap.size, 0, none⟩)) (by simp [go_sem]) ?_
  simp only [Act.put, List.setIfInBounds_toArray, List.set_cons_zero, List.set_cons_succ]
  go_upto_region 4 with (fail)
  refine wp_region_lit ?_
  refine wpList_made w1 Try.underlying31 info5 rfl (.const (.int .i64 512)) (.const (.int .i64 512)) rfl 512 rfl rfl (by decide) ?_
  intro w2 hO2 hX2
  simp only [Act.put, List.setIfInBounds_toArray, List.set_cons_zero, List.set_cons_succ]
  obtain ⟨z, hz⟩ : ∃ z, z = tx (fun _ => 0#8) := ⟨_, rfl⟩
  have ca : (convert 31 9 (.slice (some ⟨w1.heap.size, 0, none⟩) 512 512)).run Try.prog w2 = .ok (.string z) w2 := by rw [hz]; exact convV _ _ _ _ hO2.bv
  refine wpList_run rfl (.string z) (by simp [go_sem, ca]) ?_
  simp only [Act.put, List.setIfInBounds_toArray, List.set_cons_zero, List.set_cons_succ]
  refine wpList_run rfl (.string z) (by simp [go_sem]) ?_
  simp only [Act.put, List.setIfInBounds_toArray, List.set_cons_zero, List.set_cons_succ]
  have hS : Hid (NwR W W.heap.size z (.slice none 0 0) 0 w2) := ⟨hPa.carry hX2, ownK_nil _ _ _ _ _, (by intro e; cases e), Ext.trans hXa hX2, Nat.le_refl _, fun ⟨cur, fz, e⟩ => by
    rw [Below.block hX2 _ hPa.2.2, hpa] at e
    injection e with e
    injection e with _ e3
    exact absurd e3 (by decide), fun ⟨cur, fz, e⟩ => by
    rw [Below.block hX2 _ hPa.2.2, hpa] at e
    injection e with e
    injection e with _ e3
    exact absurd e3 (by decide)⟩
  replace hz := hideit hz
  clear ca hO2 hX2 hXa hPa hpa
  generalize hx : W.heap.size = x at hS
  replace hx := hideit hx
  go_wp2
  go_loopw [6] (fun iv X => ∃ (i : Nat) (v : Value), i ≤ n ∧ iv = .int .i64 (i : Int) ∧ NwR W x z v i X) (fun iv _ => 5000 - (intOf iv).toNat)
  case atStart => exact ⟨0, _, Nat.zero_le _, rfl, hS.out⟩
  case round =>
    obtain ⟨i, v, hi, rfl, hI⟩ := hrel
    clear hS
    obtain ⟨vo, vc, rfl⟩ := hI.own.form
    by_cases hlt : i < n
    · have j1 : (i : Int) < (n : Int) := by omega
      have e0 : wr.cell? ⟨x, 0, none⟩ = some (.slice vo i vc) := hI.st.1 0 (by decide)
      have hX3 : Ext wr (wr.alloc (.cells #[.string z, .slice none 0 0] 63)) := (Below.refl _ _).alloc (Nat.le_refl _) _
      have hR3 : RowAt wr.heap.size 2 (zbV z) (wr.alloc (.cells #[.string z, .slice none 0 0] 63)) := RowAt.newOf wr 2 _ 63 _ fun j hj => by rcases (by omega : j = 0 ∨ j = 1) with rfl | rfl <;> rfl
      have hO3 := hI.own.ext hX3
      have hE3 := Ext.trans hI.ext hX3
      have hst3 := hI.st.carry hX3
      have hlie := RowAt.lie hR3 2 (Nat.le_refl _)
      go_upto_region 8 with (fail)
      refine wp_region_lit ?_
      refine wpList_run rfl (.pointer (some ⟨x, 0, none⟩)) (by simp [go_sem]) ?_
      simp only [Act.put, List.setIfInBounds_toArray, List.set_cons_zero, List.set_cons_succ]
      refine wpList_run rfl (.pointer (some ⟨x, 0, none⟩)) (by simp [go_sem]) ?_
      simp only [Act.put, List.setIfInBounds_toArray, List.set_cons_zero, List.set_cons_succ]
      refine wpList_run rfl (.pointer (some ⟨x, 0, none⟩)) (by simp [go_sem]) ?_
      simp only [Act.put, List.setIfInBounds_toArray, List.set_cons_zero, List.set_cons_succ]
      refine wpList_run rfl (.pointer (some ⟨x, 0, none⟩)) (by simp [go_sem]) ?_
      simp only [Act.put, List.setIfInBounds_toArray, List.set_cons_zero, List.set_cons_succ]
      refine wpList_run rfl (.slice vo i vc) (by simp [go_sem, e0]) ?_
      simp only [Act.put, List.setIfInBounds_toArray, List.set_cons_zero, List.set_cons_succ]
      refine wpList_run rfl (.string z) (by simp [go_sem]) ?_
      simp only [Act.put, List.setIfInBounds_toArray, List.set_cons_zero, List.set_cons_succ]
      refine wpList_run rfl (.agg #[.string z, .slice none 0 0]) (by simp [go_sem]) ?_
      simp only [Act.put, List.setIfInBounds_toArray, List.set_cons_zero, List.set_cons_succ]
      refine wpList_to rfl (.slice (some ⟨wr.heap.size, 0, none⟩) 1 1) (wr.alloc (.cells #[.string z, .slice none 0 0] 63)) (by simp [go_sem]) ?_
      simp only [Act.put, List.setIfInBounds_toArray, List.set_cons_zero, List.set_cons_succ]
      generalize wr.alloc (.cells #[.string z, .slice none 0 0] 63) = w3 at *
      refine wpList_growK (n := i) (base := W.heap.size) E59 (by decide) rfl (.tmp 26) (.tmp 29) rfl rfl hO3 ⟨wr.heap.size, 0, none⟩ 1 1 _ (zbV z) rfl hlie (fun j hj => by unfold zbV; split <;> rfl) (fun j hj => rfl) (fun j hj => by unfold zbV; rw [show (i * 2 + j) % 2 = j % 2 by omega]) (by have : (i + 1) * B ≤ 4096 * 4096 := Nat.mul_le_mul (by omega) hB; omega) (by omega) (Below.size hE3) ?_
      intro v4 w4 hO4 hg4
      have hE4 : Ext W w4 := Below.trans hE3 (below_grown (Below.size hE3) hg4 fun b hb => (hO3.lt b hb).1)
      have hst4 : RowAt x 3 (nwV (.slice vo i vc)) w4 := hst3.grown hg4 fun e => hI.vx e.symm
      have hv4 : v4.ownBlock ≠ some x := fun e => own_notX hO4 e hst4 hI hX3 hg4
      obtain ⟨zo, zc, rfl⟩ := hO4.form
      have z4 := hst4.2.1 0 (by decide)
      have e4 : w4.cell? ⟨x, 0, none⟩ = some (.slice vo i vc) := hst4.1 0 (by decide)
      simp only [Act.put, List.setIfInBounds_toArray, List.set_cons_zero, List.set_cons_succ]
      refine wpList_run rfl (.pointer (some ⟨x, 0, none⟩)) (by simp [go_sem]) ?_
      simp only [Act.put, List.setIfInBounds_toArray, List.set_cons_zero, List.set_cons_succ]
      refine wpList_run rfl (.pointer (some ⟨x, 0, none⟩)) (by simp [go_sem]) ?_
      simp only [Act.put, List.setIfInBounds_toArray, List.set_cons_zero, List.set_cons_succ]
      refine wpList_st9 rfl (w4.setCell ⟨x, 0, none⟩ (.slice zo (i + 1) zc)) (by simp [go_sem, e4, z4]) ?_
      simp only [Act.put]
      have hI5 : Hid (NwR W x z (.slice zo (i + 1) zc) (i + 1) (w4.setCell ⟨x, 0, none⟩ (.slice zo (i + 1) zc))) := NwR.next hI hX3 hg4 hO4 hv4 hE4
      clear e0 hX3 hR3 hO3 hE3 hst3 hlie hO4 hg4 hE4 hst4 hv4 z4 e4 hI
      go_wp2
      exact ⟨⟨i + 1, _, by omega, by go_num, hI5.out⟩, by simp [intOf]; omega⟩
    · obtain rfl : i = n := by omega
      have hd := hI
      rw [hz.out] at hd
      obtain ⟨G, R, hR, hG⟩ := hd.done h1 h2
      have hE := hideit hI.ext
      replace hR := hideit hR
      replace hG := hideit hG
      have j1 : ¬ (i : Int) < (i : Int) := by omega
      clear hI hd
      go_wp2
      go_ret2
      first | exact ⟨_, rfl, G, R, hR.out, hE.out, hG.out⟩ | exact ⟨_, rfl, G, ⟨R, hR.out⟩, hE.out, hG.out⟩ | exact ⟨_, rfl, G, ⟨R, hR.out⟩, ⟨hE.out, hG.out⟩⟩
end Go.Proofs.Ytfaeieaelfjlpaa
namespace Go.Proofs.Ytfaeieaelfjlpaa
open Go.RowKit Go.BigFrame Go.Maps
section
variable {F G : Nat → Prop} {x : Nat} {s : DSt} {stp : Bool} {cl : Int} {R : RM} {W Y : World}
/-- the blocks below i with unsure writes, in their order -/
structure UlW (s : DSt) (W : World) (v : Value) (k : Nat) (ks : Nat → Int) (i : Nat) (X : World) : Prop where
  own : OwnK 2 W.heap.size 65 v k (kpV ks (kcI s ks)) X
  ext : Ext W X
  isN : ∀ j, j < k → ∃ n : Nat, ks j = (n : Int) ∧ n < i ∧ 0 < s.kc n
  all : ∀ n, n < i → 0 < s.kc n → ∃ j, j < k ∧ ks j = (n : Int)
  inc : ∀ a b, a < b → b < k → ks a < ks b
  ki : k ≤ i
theorem UlW.skip {v : Value} {k i : Nat} {ks : Nat → Int} {X : World} (h : UlW s W v k ks i X) (h0 : s.kc i = 0) : UlW s W v k ks (i + 1) X := { h with
  isN := fun j hj => by
    obtain ⟨n, a, b, c⟩ := h.isN j hj
    exact ⟨n, a, by omega, c⟩
  all := fun n hn hk => by
    by_cases e : n = i
    · rw [e] at hk
      omega
    · exact h.all n (by omega) hk
  ki := by have := h.ki; omega }
theorem UlW.more {v v' : Value} {k i : Nat} {ks : Nat → Int} {X Z : World} (h : UlW s W v k ks i X) (h0 : 0 < s.kc i) (hE : Ext W Z) (hO : OwnK 2 W.heap.size 65 v' (k + 1) (kpV (upN ks k (i : Int)) (kcI s (upN ks k (i : Int)))) Z) : UlW s W v' (k + 1) (upN ks k (i : Int)) (i + 1) Z where
  own := hO
  ext := hE
  isN := fun j hj => by
    by_cases e : j = k
    · exact ⟨i, by rw [e, upN_same], by omega, h0⟩
    · obtain ⟨n, a, b, c⟩ := h.isN j (by omega)
      exact ⟨n, by rw [upN_other _ e]; exact a, by omega, c⟩
  all := fun n hn hk => by
    by_cases e : n = i
    · exact ⟨k, by omega, by rw [upN_same, e]⟩
    · obtain ⟨j, hj, e2⟩ := h.all n (by omega) hk
      exact ⟨j, by omega, by rw [upN_other _ (by omega)]; exact e2⟩
  inc := fun a b hab hb => by
    by_cases e : b = k
    · rw [e, upN_same, upN_other _ (by omega)]
      obtain ⟨n, e1, e2, _⟩ := h.isN a (by omega)
      rw [e1]
      omega
    · rw [upN_other _ e, upN_other _ (by omega)]
      exact h.inc a b hab (by omega)
  ki := by have := h.ki; omega
theorem UlW.lst {v : Value} {k : Nat} {ks : Nat → Int} {X : World} (h : UlW s W v k ks s.N X) : Lst s ks k where
  isN := h.isN
  all := h.all
  inj := fun i j hi hj e => by
    rcases Nat.lt_trichotomy i j with h1 | h1 | h1
    · have := h.inc i j h1 hj
      omega
    · exact h1
    · have := h.inc j i h1 hi
      omega
set_option maxRecDepth 20000 in
set_option maxHeartbeats 2000000 in
theorem runsure (h : RdM G x s stp cl R W) : Calls Try.prog 36 #[.pointer (some ⟨x, 0, none⟩)] W fun e w' => ∃ v, e = .returned v ∧ ∃ k ks, UlW s W v k ks s.N w' := by
  have hn4 := h.n4
  have h0 : Hid (UlW s W (.slice none 0 0) 0 (fun _ => 0) 0 W) := ⟨ownK_nil _ _ _ _ _, Ext.refl _, fun j hj => absurd hj (Nat.not_lt_zero _), fun n hn => absurd hn (Nat.not_lt_zero _), fun a b _ hb => absurd hb (Nat.not_lt_zero _), Nat.le_refl _⟩
  replace h := hideit h
  go_enter Try.func36, Try.ntmps36
  go_wp2
  go_loopw [3, 4] (fun lv iv X => ∃ (i k : Nat) (ks : Nat → Int), i ≤ s.N ∧ iv = .int .i64 (i : Int) ∧ UlW s W lv k ks i X) (fun _ iv _ => 5000 - (intOf iv).toNat)
  case atStart => exact ⟨0, 0, _, Nat.zero_le _, rfl, h0.out⟩
  case round =>
    rename_i lv _
    obtain ⟨i, k, ks, hi, rfl, hI⟩ := hrel
    clear h0
    obtain ⟨yo, yc, rfl⟩ := hI.own.form
    have hR := h.out.ext hI.ext
    have e0 := hR.c0
    by_cases hlt : i < s.N
    · have i0 : (0 : Int) ≤ (i : Int) := by omega
      have i1 : (i : Int) < (s.N : Int) := by omega
      obtain ⟨lo, lc, hlv⟩ := own_form9 (hR.list i hlt)
      have c1 : wr.cell? ⟨R.bb, i * 2 + 1, none⟩ = some (.slice lo (s.kc i) lc) := by
        rw [hR.row.1 (i * 2 + 1) (by omega)]
        unfold blV
        rw [if_neg (by omega), show (i * 2 + 1) / 2 = i by omega, hlv]
      have hkm : s.kc i ≤ 9223372036854775807 := by
        rcases Nat.eq_zero_or_pos (s.kc i) with e | e
        · omega
        · obtain ⟨_, _, _, _, a1, a2, _⟩ := (hR.list i hlt).lies e
          unfold maxLen at a2
          omega
      clear hR
      go_upto_region 3 with (fail)
      refine wp_region_lit ?_
      refine wpList_run rfl (.int .i64 (i : Int)) (by simp [go_sem]) ?_
      simp only [Act.put, List.setIfInBounds_toArray, List.set_cons_zero, List.set_cons_succ]
      refine wpList_run rfl (.pointer (some ⟨x, 0, none⟩)) (by simp [go_sem]) ?_
      simp only [Act.put, List.setIfInBounds_toArray, List.set_cons_zero, List.set_cons_succ]
      refine wpList_run rfl (.pointer (some ⟨x, 0, none⟩)) (by simp [go_sem]) ?_
      simp only [Act.put, List.setIfInBounds_toArray, List.set_cons_zero, List.set_cons_succ]
      refine wpList_run rfl (.pointer (some ⟨x, 0, none⟩)) (by simp [go_sem]) ?_
      simp only [Act.put, List.setIfInBounds_toArray, List.set_cons_zero, List.set_cons_succ]
      refine wpList_run rfl (.slice (some ⟨R.bb, 0, none⟩) s.N R.cp) (by simp [go_sem, e0]) ?_
      simp only [Act.put, List.setIfInBounds_toArray, List.set_cons_zero, List.set_cons_succ]
      refine wpList_run rfl (.int .i64 (s.N : Int)) (by simp [go_sem]) ?_
      simp only [Act.put, List.setIfInBounds_toArray, List.set_cons_zero, List.set_cons_succ]
      refine wpList_run rfl (.bool true) (by simp [go_sem, i1]) ?_
      simp only [Act.put, List.setIfInBounds_toArray, List.set_cons_zero, List.set_cons_succ]
      go_upto_region 5 with (fail)
      refine wp_region_lit ?_
      refine wpList_run rfl (.pointer (some ⟨x, 0, none⟩)) (by simp [go_sem]) ?_
      simp only [Act.put, List.setIfInBounds_toArray, List.set_cons_zero, List.set_cons_succ]
      refine wpList_run rfl (.pointer (some ⟨x, 0, none⟩)) (by simp [go_sem]) ?_
      simp only [Act.put, List.setIfInBounds_toArray, List.set_cons_zero, List.set_cons_succ]
      refine wpList_run rfl (.pointer (some ⟨x, 0, none⟩)) (by simp [go_sem]) ?_
      simp only [Act.put, List.setIfInBounds_toArray, List.set_cons_zero, List.set_cons_succ]
      refine wpList_run rfl (.slice (some ⟨R.bb, 0, none⟩) s.N R.cp) (by simp [go_sem, e0]) ?_
      simp only [Act.put, List.setIfInBounds_toArray, List.set_cons_zero, List.set_cons_succ]
      refine wpList_run rfl (.int .i64 (i : Int)) (by simp [go_sem]) ?_
      simp only [Act.put, List.setIfInBounds_toArray, List.set_cons_zero, List.set_cons_succ]
      refine wpList_run rfl (.pointer (some ⟨R.bb, i * 2, none⟩)) (by simp [go_sem, i1]) ?_
      simp only [Act.put, List.setIfInBounds_toArray, List.set_cons_zero, List.set_cons_succ]
      refine wpList_run rfl (.pointer (some ⟨R.bb, i * 2 + 1, none⟩)) (by simp [go_sem]) ?_
      simp only [Act.put, List.setIfInBounds_toArray, List.set_cons_zero, List.set_cons_succ]
      refine wpList_run rfl (.slice lo (s.kc i) lc) (by simp [go_sem, c1]) ?_
      simp only [Act.put, List.setIfInBounds_toArray, List.set_cons_zero, List.set_cons_succ]
      refine wpList_run rfl (.int .i64 (s.kc i : Int)) (by simp [go_sem]) ?_
      simp only [Act.put, List.setIfInBounds_toArray, List.set_cons_zero, List.set_cons_succ]
      by_cases hk : s.kc i = 0
      · have hn := hideit (hI.skip hk)
        refine wpList_run rfl (.bool false) (by simp [go_sem, hk]) ?_
        simp only [Act.put, List.setIfInBounds_toArray, List.set_cons_zero, List.set_cons_succ]
        clear hI e0 c1 hlv
        go_wp2
        exact ⟨⟨i + 1, k, ks, by omega, by go_num, hn.out⟩, by simp [intOf]; omega⟩
      · have hk0 : 0 < s.kc i := Nat.pos_of_ne_zero hk
        refine wpList_run rfl (.bool true) (by simp [go_sem, hk0]) ?_
        simp only [Act.put, List.setIfInBounds_toArray, List.set_cons_zero, List.set_cons_succ]
        have hX3 : Ext wr (wr.alloc (.cells #[.int .i64 (i : Int), .int .i64 (s.kc i : Int)] 65)) := (Below.refl _ _).alloc (Nat.le_refl _) _
        have hR3 : RowAt wr.heap.size 2 (kpI (i : Int) (s.kc ((i : Int)).toNat : Int)) (wr.alloc (.cells #[.int .i64 (i : Int), .int .i64 (s.kc i : Int)] 65)) := RowAt.newOf wr 2 _ 65 _ fun j hj => by rcases (by omega : j = 0 ∨ j = 1) with rfl | rfl <;> rfl
        have hO3 := hI.own.ext hX3
        have hE3 := Ext.trans hI.ext hX3
        have hlie := RowAt.lie hR3 2 (Nat.le_refl _)
        have hki := hI.ki
        obtain ⟨hp1, hp2⟩ := kpV_snoc s ks k (i : Int)
        go_upto_region 6 with (fail)
        refine wp_region_lit ?_
        refine wpList_run rfl (.slice yo k yc) (by simp [go_sem]) ?_
        simp only [Act.put, List.setIfInBounds_toArray, List.set_cons_zero, List.set_cons_succ]
        refine wpList_run rfl (.int .i64 (i : Int)) (by simp [go_sem]) ?_
        simp only [Act.put, List.setIfInBounds_toArray, List.set_cons_zero, List.set_cons_succ]
        refine wpList_run rfl (.pointer (some ⟨x, 0, none⟩)) (by simp [go_sem]) ?_
        simp only [Act.put, List.setIfInBounds_toArray, List.set_cons_zero, List.set_cons_succ]
        refine wpList_run rfl (.pointer (some ⟨x, 0, none⟩)) (by simp [go_sem]) ?_
        simp only [Act.put, List.setIfInBounds_toArray, List.set_cons_zero, List.set_cons_succ]
        refine wpList_run rfl (.pointer (some ⟨x, 0, none⟩)) (by simp [go_sem]) ?_
        simp only [Act.put, List.setIfInBounds_toArray, List.set_cons_zero, List.set_cons_succ]
        refine wpList_run rfl (.slice (some ⟨R.bb, 0, none⟩) s.N R.cp) (by simp [go_sem, e0]) ?_
        simp only [Act.put, List.setIfInBounds_toArray, List.set_cons_zero, List.set_cons_succ]
        refine wpList_run rfl (.int .i64 (i : Int)) (by simp [go_sem]) ?_
        simp only [Act.put, List.setIfInBounds_toArray, List.set_cons_zero, List.set_cons_succ]
        refine wpList_run rfl (.pointer (some ⟨R.bb, i * 2, none⟩)) (by simp [go_sem, i1]) ?_
        simp only [Act.put, List.setIfInBounds_toArray, List.set_cons_zero, List.set_cons_succ]
        refine wpList_run rfl (.pointer (some ⟨R.bb, i * 2 + 1, none⟩)) (by simp [go_sem]) ?_
        simp only [Act.put, List.setIfInBounds_toArray, List.set_cons_zero, List.set_cons_succ]
        refine wpList_run rfl (.slice lo (s.kc i) lc) (by simp [go_sem, c1]) ?_
        simp only [Act.put, List.setIfInBounds_toArray, List.set_cons_zero, List.set_cons_succ]
        refine wpList_run rfl (.int .i64 (s.kc i : Int)) (by simp [go_sem]) ?_
        simp only [Act.put, List.setIfInBounds_toArray, List.set_cons_zero, List.set_cons_succ]
        refine wpList_run rfl (.agg #[.int .i64 (i : Int), .int .i64 (s.kc i : Int)]) (by simp [go_sem]) ?_
        simp only [Act.put, List.setIfInBounds_toArray, List.set_cons_zero, List.set_cons_succ]
        refine wpList_to rfl (.slice (some ⟨wr.heap.size, 0, none⟩) 1 1) (wr.alloc (.cells #[.int .i64 (i : Int), .int .i64 (s.kc i : Int)] 65)) (by simp [go_sem]) ?_
        simp only [Act.put, List.setIfInBounds_toArray, List.set_cons_zero, List.set_cons_succ]
        generalize wr.alloc (.cells #[.int .i64 (i : Int), .int .i64 (s.kc i : Int)] 65) = w3 at *
        refine wpList_growK (n := k) (base := W.heap.size) elem32K (by decide) rfl (.tmp 24) (.tmp 36) rfl rfl hO3 ⟨wr.heap.size, 0, none⟩ 1 1 _ (kpV (upN ks k (i : Int)) (kcI s (upN ks k (i : Int)))) rfl hlie (fun j hj => by unfold kpI; split <;> rfl) hp1 hp2 (by omega) (by omega) (Below.size hE3) ?_
        intro v4 w4 hO4 hg4
        have hE4 : Ext W w4 := Below.trans hE3 (below_grown (Below.size hE3) hg4 fun b hb => (hO3.lt b hb).1)
        have hn := hideit (hI.more hk0 hE4 hO4)
        obtain ⟨zo, zc, rfl⟩ := hO4.form
        simp only [Act.put, List.setIfInBounds_toArray, List.set_cons_zero, List.set_cons_succ]
        refine wpList_run rfl (.slice zo (k + 1) zc) (by simp [go_sem]) ?_
        simp only [Act.put, List.setIfInBounds_toArray, List.set_cons_zero, List.set_cons_succ]
        clear hI e0 c1 hlv hX3 hR3 hO3 hE3 hlie hp1 hp2 hO4 hg4 hE4
        go_wp2
        exact ⟨⟨i + 1, k + 1, _, by omega, by go_num, hn.out⟩, by simp [intOf]; omega⟩
    · obtain rfl : i = s.N := by omega
      have hn := hideit hI
      clear hI hR
      go_upto_region 3 with (fail)
      refine wp_region_lit ?_
      refine wpList_run rfl (.int .i64 (s.N : Int)) (by simp [go_sem]) ?_
      simp only [Act.put, List.setIfInBounds_toArray, List.set_cons_zero, List.set_cons_succ]
      refine wpList_run rfl (.pointer (some ⟨x, 0, none⟩)) (by simp [go_sem]) ?_
      simp only [Act.put, List.setIfInBounds_toArray, List.set_cons_zero, List.set_cons_succ]
      refine wpList_run rfl (.pointer (some ⟨x, 0, none⟩)) (by simp [go_sem]) ?_
      simp only [Act.put, List.setIfInBounds_toArray, List.set_cons_zero, List.set_cons_succ]
      refine wpList_run rfl (.pointer (some ⟨x, 0, none⟩)) (by simp [go_sem]) ?_
      simp only [Act.put, List.setIfInBounds_toArray, List.set_cons_zero, List.set_cons_succ]
      refine wpList_run rfl (.slice (some ⟨R.bb, 0, none⟩) s.N R.cp) (by simp [go_sem, e0]) ?_
      simp only [Act.put, List.setIfInBounds_toArray, List.set_cons_zero, List.set_cons_succ]
      refine wpList_run rfl (.int .i64 (s.N : Int)) (by simp [go_sem]) ?_
      simp only [Act.put, List.setIfInBounds_toArray, List.set_cons_zero, List.set_cons_succ]
      refine wpList_run rfl (.bool false) (by simp [go_sem]) ?_
      simp only [Act.put, List.setIfInBounds_toArray, List.set_cons_zero, List.set_cons_succ]
      clear e0
      go_wp2
      go_ret
      exact ⟨_, rfl, k, ks, hn.out⟩
end
end Go.Proofs.Ytfaeieaelfjlpaa
