/-
  RC1, RC2, Cgn, RAs.
-/
import Derived.Test.YtapmheocllicnaaDoorOpLM
import Derived.Test.YtapmheocllicnaaDoorCg1M
namespace Go.Proofs.YtapmheocllicnaaDoor
open Go.RowKit Go.BigFrame
set_option maxRecDepth 20000 in
set_option maxHeartbeats 2000000 in
theorem rchange_no (n i : Int) (k : Nat) (leaf : Nat → BitVec 8) (pv : Value) (us : Nat → Value) (ls : Nat → Nat) (w : World) (hP : PartsW pv k us ls w) (hk : k ≤ 9223372036854775807) (hno : isP n k ls = false) :
    Calls Tryd.prog 24 #[.int .i64 n, .int .i64 i, .agg (row 32 (yv leaf)).toArray, pv] w fun e w' => e = .returned (.tuple #[.slice none 0 0, .agg (row 32 (yv fun _ => 0#8)).toArray, .int .i64 1]) ∧ Ext w w' := by
  obtain ⟨ov, cap, rfl⟩ := hP.form
  have hz := zero24
  have HL0 := RowAt.new w 32 (yv leaf) 25
  have HE0 : Ext w (w.alloc (.cells (row 32 (yv leaf)).toArray 25)) := (Below.refl _ _).alloc (Nat.le_refl _) _
  have HX0 : Ext (w.alloc (.cells (row 32 (yv leaf)).toArray 25)) ((w.alloc (.cells (row 32 (yv leaf)).toArray 25)).alloc (.cells (row 32 (yv fun _ => 0#8)).toArray 25)) := (Below.refl _ _).alloc (Nat.le_refl _) _
  have HT := RowAt.new (w.alloc (.cells (row 32 (yv leaf)).toArray 25)) 32 (yv fun _ => 0#8) 25
  rw [show (w.alloc (.cells (row 32 (yv leaf)).toArray 25)).heap.size = w.heap.size + 1 by simp] at HT
  replace HT := hideit HT
  have HL := hideit (HL0.carry HX0)
  have HE1 := Ext.trans HE0 HX0
  have kr := rright_any n _ k us ls _ (hP.ext HE1) hk
  rw [hno] at kr
  clear hP hno
  replace kr := hideit kr
  have HE := hideit HE1
  clear HL0 HE0 HX0 HE1
  go_enter Tryd.func24, Tryd.ntmps24
  go_upto_region 1 with (fail)
  generalize (w.alloc (.cells (row 32 (yv leaf)).toArray 25)).alloc (.cells (row 32 (yv fun _ => 0#8)).toArray 25) = w4 at *
  go_upto_region 2 with (go_at_call 36; refine kr.out.mono ?_; rintro e w5 ⟨rfl, hX5⟩; have HE2 := hideit (Ext.trans HE.out hX5); have HL2 := hideit (HL.out.carry hX5); have HT2 := hideit (HT.out.carry hX5); clear hX5 kr HE HL HT)
  refine wp_region_lit ?_
  refine wpList_build rfl 25 [] rfl (.agg (row 32 (yv fun _ => 0#8)).toArray) (build25 _) ?_
  simp only [Act.put, List.setIfInBounds_toArray, List.set_cons_zero, List.set_cons_succ]
  refine wpList_run rfl (.slice none 0 0) (by simp [go_sem]) ?_
  simp only [Act.put, List.setIfInBounds_toArray, List.set_cons_zero, List.set_cons_succ]
  refine wpList_store_mid rfl 25 (.tmp 9) (.tmp 31) rfl _ 0 (row 32 (yv fun _ => 0#8)).toArray rfl rfl (by rw [row_size]; exact HT2.out.there) (by rw [row_size]; exact info24) (row_one fun _ _ => rfl) ?_
  have res8 := hideit (HT2.out.cells (g' := yv fun _ => 0#8))
  have hE8 := hideit (below_setCells (w := w) (w.heap.size + 1) (by omega) (row 32 (yv fun _ => 0#8)) 0 w5 HE2.out)
  rw [show (row 32 (yv fun _ => 0#8)).toArray.toList = row 32 (yv fun _ => 0#8) from rfl]
  generalize w5.setCells (w.heap.size + 1) 0 (row 32 (yv fun _ => 0#8)) = w8 at *
  clear HT2 HE2 HL2
  simp only [Act.put]
  go_wp2
  exact bodyPost_ret (ret_row3 Tryd.results24 rfl res8.out Tryd.underlying25 rfl info24) rfl ⟨rfl, hE8.out⟩
set_option maxRecDepth 20000 in
set_option maxHeartbeats 2000000 in
theorem rchange_place (n i : Int) (k : Nat) (leaf : Nat → BitVec 8) (pv : Value) (us : Nat → Value) (ls : Nat → Nat) (w : World) (hP : PartsW pv k us ls w) (hk : k ≤ 9223372036854775807) (hyes : isP n k ls = true) (hi : i < 0 ∨ n ≤ i) :
    Calls Tryd.prog 24 #[.int .i64 n, .int .i64 i, .agg (row 32 (yv leaf)).toArray, pv] w fun e w' => e = .returned (.tuple #[.slice none 0 0, .agg (row 32 (yv fun _ => 0#8)).toArray, .int .i64 1]) ∧ Ext w w' := by
  obtain ⟨ov, cap, rfl⟩ := hP.form
  have hz := zero24
  have HL0 := RowAt.new w 32 (yv leaf) 25
  have HE0 : Ext w (w.alloc (.cells (row 32 (yv leaf)).toArray 25)) := (Below.refl _ _).alloc (Nat.le_refl _) _
  have HX0 : Ext (w.alloc (.cells (row 32 (yv leaf)).toArray 25)) ((w.alloc (.cells (row 32 (yv leaf)).toArray 25)).alloc (.cells (row 32 (yv fun _ => 0#8)).toArray 25)) := (Below.refl _ _).alloc (Nat.le_refl _) _
  have HT := RowAt.new (w.alloc (.cells (row 32 (yv leaf)).toArray 25)) 32 (yv fun _ => 0#8) 25
  rw [show (w.alloc (.cells (row 32 (yv leaf)).toArray 25)).heap.size = w.heap.size + 1 by simp] at HT
  replace HT := hideit HT
  have HL := hideit (HL0.carry HX0)
  have HE1 := Ext.trans HE0 HX0
  have kr := rright_any n _ k us ls _ (hP.ext HE1) hk
  rw [hyes] at kr
  clear hP hyes
  replace kr := hideit kr
  have HE := hideit HE1
  clear HL0 HE0 HX0 HE1
  go_enter Tryd.func24, Tryd.ntmps24
  go_upto_region 1 with (fail)
  generalize (w.alloc (.cells (row 32 (yv leaf)).toArray 25)).alloc (.cells (row 32 (yv fun _ => 0#8)).toArray 25) = w4 at *
  by_cases i0 : i < 0
  · clear hi
    go_upto_region 2 with (go_at_call 36; refine kr.out.mono ?_; rintro e w5 ⟨rfl, hX5⟩; have HE2 := hideit (Ext.trans HE.out hX5); have HL2 := hideit (HL.out.carry hX5); have HT2 := hideit (HT.out.carry hX5); clear hX5 kr HE HL HT)
    refine wp_region_lit ?_
    refine wpList_build rfl 25 [] rfl (.agg (row 32 (yv fun _ => 0#8)).toArray) (build25 _) ?_
    simp only [Act.put, List.setIfInBounds_toArray, List.set_cons_zero, List.set_cons_succ]
    refine wpList_run rfl (.slice none 0 0) (by simp [go_sem]) ?_
    simp only [Act.put, List.setIfInBounds_toArray, List.set_cons_zero, List.set_cons_succ]
    refine wpList_store_mid rfl 25 (.tmp 9) (.tmp 31) rfl _ 0 (row 32 (yv fun _ => 0#8)).toArray rfl rfl (by rw [row_size]; exact HT2.out.there) (by rw [row_size]; exact info24) (row_one fun _ _ => rfl) ?_
    have res8 := hideit (HT2.out.cells (g' := yv fun _ => 0#8))
    have hE8 := hideit (below_setCells (w := w) (w.heap.size + 1) (by omega) (row 32 (yv fun _ => 0#8)) 0 w5 HE2.out)
    rw [show (row 32 (yv fun _ => 0#8)).toArray.toList = row 32 (yv fun _ => 0#8) from rfl]
    generalize w5.setCells (w.heap.size + 1) 0 (row 32 (yv fun _ => 0#8)) = w8 at *
    clear HT2 HE2 HL2
    simp only [Act.put]
    go_wp2
    exact bodyPost_ret (ret_row3 Tryd.results24 rfl res8.out Tryd.underlying25 rfl info24) rfl ⟨rfl, hE8.out⟩
  · have i1 : n ≤ i := by omega
    clear hi
    go_upto_region 2 with (go_at_call 36; refine kr.out.mono ?_; rintro e w5 ⟨rfl, hX5⟩; have HE2 := hideit (Ext.trans HE.out hX5); have HL2 := hideit (HL.out.carry hX5); have HT2 := hideit (HT.out.carry hX5); clear hX5 kr HE HL HT)
    refine wp_region_lit ?_
    refine wpList_build rfl 25 [] rfl (.agg (row 32 (yv fun _ => 0#8)).toArray) (build25 _) ?_
    simp only [Act.put, List.setIfInBounds_toArray, List.set_cons_zero, List.set_cons_succ]
    refine wpList_run rfl (.slice none 0 0) (by simp [go_sem]) ?_
    simp only [Act.put, List.setIfInBounds_toArray, List.set_cons_zero, List.set_cons_succ]
    refine wpList_store_mid rfl 25 (.tmp 9) (.tmp 31) rfl _ 0 (row 32 (yv fun _ => 0#8)).toArray rfl rfl (by rw [row_size]; exact HT2.out.there) (by rw [row_size]; exact info24) (row_one fun _ _ => rfl) ?_
    have res8 := hideit (HT2.out.cells (g' := yv fun _ => 0#8))
    have hE8 := hideit (below_setCells (w := w) (w.heap.size + 1) (by omega) (row 32 (yv fun _ => 0#8)) 0 w5 HE2.out)
    rw [show (row 32 (yv fun _ => 0#8)).toArray.toList = row 32 (yv fun _ => 0#8) from rfl]
    generalize w5.setCells (w.heap.size + 1) 0 (row 32 (yv fun _ => 0#8)) = w8 at *
    clear HT2 HE2 HL2
    simp only [Act.put]
    go_wp2
    exact bodyPost_ret (ret_row3 Tryd.results24 rfl res8.out Tryd.underlying25 rfl info24) rfl ⟨rfl, hE8.out⟩
/-- how the document's Change stands on its way -/
structure RI (w : World) (rb db q : Nat) (d : Nat → BitVec 8) (cv : Value) (nb nc : Nat → Nat) (ct : Nat → Nat → BitVec 8) (W : World) : Prop where
  lt : w.heap.size ≤ rb
  lt2 : rb < db
  ext : Ext w W
  r : RowAt rb 32 (yv fun _ => 0#8) W
  d : RowAt db 32 (yv d) W
  own : OwnB (db + 1) 23 cv q (chV nb nc) W
  nil : q = 0 → cv = .slice none 0 0
  nodes : ∀ i, i < q → db + 1 ≤ nb i ∧ 512 ≤ nc i ∧ RowAt (nb i) 512 (yv (ct i)) W
section
variable {w : World} {rb db q : Nat} {d : Nat → BitVec 8} {cv : Value} {nb nc : Nat → Nat} {ct : Nat → Nat → BitVec 8} {W Y : World}
theorem RI.carry (h : RI w rb db q d cv nb nc ct W) (e : Ext W Y) : RI w rb db q d cv nb nc ct Y :=
  ⟨h.lt, h.lt2, Ext.trans h.ext e, h.r.carry e, h.d.carry e, h.own.ext e, h.nil, fun i hi => ⟨(h.nodes i hi).1, (h.nodes i hi).2.1, (h.nodes i hi).2.2.carry e⟩⟩
theorem RI.but {c : Nat} (h : RI w rb db q d cv nb nc ct W) (hB : But c W Y) (hc : db + 1 ≤ c) (hn : ∀ i, i < q → nb i ≠ c) (ho : cv.ownBlock ≠ some c) : RI w rb db q d cv nb nc ct Y :=
  have hl := h.lt
  have hl2 := h.lt2
  ⟨h.lt, h.lt2, Ext.but h.ext hB (by omega), h.r.but hB (by omega), h.d.but hB (by omega), h.own.but hB ho, h.nil, fun i hi => ⟨(h.nodes i hi).1, (h.nodes i hi).2.1, (h.nodes i hi).2.2.but hB (hn i hi)⟩⟩
theorem RI.setD (h : RI w rb db q d cv nb nc ct W) (b' : Nat → BitVec 8) : RI w rb db q b' cv nb nc ct (W.setCells db 0 (row 32 (yv b'))) :=
  have hl := h.lt
  have hl2 := h.lt2
  ⟨h.lt, h.lt2, below_setCells _ (by omega) _ _ _ h.ext, h.r.cellsOther (by omega) _ _, h.d.cells, h.own.but (But.sets _ _ _ (But.refl _ _)) (fun e => by have := (h.own.lt _ e).1; omega), h.nil, fun i hi => ⟨(h.nodes i hi).1, (h.nodes i hi).2.1, (h.nodes i hi).2.2.cellsOther (by have := (h.nodes i hi).1; omega) _ _⟩⟩
/-- a node more -/
theorem RI.grow {b c : Nat} {nd : Nat → BitVec 8} {v' : Value} (h : RI w rb db q d cv nb nc ct W) (hb : db + 1 ≤ b) (hc : 512 ≤ c) (hR : RowAt b 512 (yv nd) W) (hnd : nd = ct q) (hg : W.grownBy Y cv.ownBlock)
    (hO : OwnB (db + 1) 23 v' (q + 1) (chV (fun i => if i = q then b else nb i) (fun i => if i = q then c else nc i)) Y) :
    RI w rb db (q + 1) d v' (fun i => if i = q then b else nb i) (fun i => if i = q then c else nc i) ct Y := by
  have hl := h.lt
  have hl2 := h.lt2
  have g0 : ∀ (b m : Nat) (f : Nat → Value), RowAt b m f W → 0 < m → (∀ A c, f 0 ≠ .slice (some A) 512 c) → RowAt b m f Y := fun b m f hr hm hne =>
    hr.grown hg (own_ne h.own h.nil hr hm (fun e => hne ⟨nb 0, 0, none⟩ (nc 0) (by rw [← e]; rfl)))
  refine ⟨hl, hl2, grownE h.ext h.own (by omega) hg, g0 _ _ _ h.r (by decide) (fun A c e => by cases e), g0 _ _ _ h.d (by decide) (fun A c e => by cases e), hO, fun e => absurd e (by omega), fun i hi => ?_⟩
  by_cases e : i = q
  · subst e
    simp only [if_true]
    rw [← hnd]
    exact ⟨hb, hc, g0 _ _ _ hR (by decide) (fun A c e => by cases e)⟩
  · simp only [e, if_false]
    have hn := h.nodes i (by omega)
    exact ⟨hn.1, hn.2.1, g0 _ _ _ hn.2.2 (by decide) (fun A c e => by cases e)⟩
end
def dF (leaf : Nat → BitVec 8) (x : Nat) (bs : Nat → Nat → BitVec 8) (t : Nat) : Nat → BitVec 8 := (gL leaf x bs (List.range t)).2.1
def cF (leaf : Nat → BitVec 8) (x : Nat) (bs : Nat → Nat → BitVec 8) (t : Nat) : Nat → BitVec 8 := putF (bs t) (plc x t) (dF leaf x bs t)
theorem dF_succ (leaf : Nat → BitVec 8) (x : Nat) (bs : Nat → Nat → BitVec 8) (t : Nat) : dF leaf x bs (t + 1) = nodeF (BitVec.ofNat 8 t) (cF leaf x bs t) 512 := by
  unfold cF dF gL
  rw [List.range_succ, List.foldl_append]
  rfl
theorem ctL_range (leaf : Nat → BitVec 8) (x : Nat) (bs : Nat → Nat → BitVec 8) (k i : Nat) (hi : i < k) : ctL leaf x bs (List.range k) i = cF leaf x bs i := by
  unfold ctL cF dF
  rw [List.getD_eq_getElem?_getD, List.getElem?_range hi, Option.getD_some, List.take_range, Nat.min_eq_left (by omega)]
theorem gL_fst (leaf : Nat → BitVec 8) (x : Nat) (bs : Nat → Nat → BitVec 8) (t : Nat) : (gL leaf x bs (List.range (t + 1))).1 = nodeF (BitVec.ofNat 8 t) (bs t) 512 := by
  unfold gL
  rw [List.range_succ, List.foldl_append]
  rfl
theorem gL_jn (leaf : Nat → BitVec 8) (x : Nat) (bs : Nat → Nat → BitVec 8) : ∀ k, (gL leaf x bs (List.range k)).2.2 ↔ Jn k x bs
  | 0 => ⟨fun _ i h1 h2 => absurd h2 (by omega), fun _ => trivial⟩
  | k + 1 => by
    have e : (gL leaf x bs (List.range (k + 1))).2.2 ↔ (gL leaf x bs (List.range k)).2.2 ∧ (0 < k → ∀ t, t < 32 → bs k (32 * plc x k + t) = (gL leaf x bs (List.range k)).1 t) := by
      unfold gL
      rw [List.range_succ, List.foldl_append]
      exact Iff.rfl
    rw [e, gL_jn leaf x bs k]
    constructor
    · rintro ⟨h, h2⟩ i h1 hi j hj
      rcases (by omega : i < k ∨ i = k) with hk | rfl
      · exact h i h1 hk j hj
      · obtain ⟨m, rfl⟩ : ∃ m, i = m + 1 := ⟨i - 1, by omega⟩
        rw [h2 (by omega) j hj, gL_fst]
        rfl
    · refine fun h => ⟨fun i h1 h2 => h i h1 (by omega), fun hk j hj => ?_⟩
      obtain ⟨m, rfl⟩ : ∃ m, k = m + 1 := ⟨k - 1, by omega⟩
      rw [h (m + 1) (by omega) (by omega) j hj, gL_fst]
      rfl
theorem chL_fst (leaf : Nat → BitVec 8) (x : Nat) (bs : Nat → Nat → BitVec 8) (t : Nat) : (chL leaf x bs (List.range (t + 1))).1 = nodeF (BitVec.ofNat 8 t) (bs t) 512 := by
  unfold chL
  rw [List.range_succ, List.foldl_append]
  rfl
theorem chL_jn (leaf : Nat → BitVec 8) (x : Nat) (bs : Nat → Nat → BitVec 8) : ∀ k, (chL leaf x bs (List.range (k + 1))).2 ↔ (∀ t, t < 32 → bs 0 (32 * plc x 0 + t) = leaf t) ∧ Jn (k + 1) x bs
  | 0 => ⟨fun h => ⟨h.2, fun i h1 h2 => absurd h2 (by omega)⟩, fun h => ⟨trivial, h.1⟩⟩
  | k + 1 => by
    have e : (chL leaf x bs (List.range (k + 1 + 1))).2 ↔ (chL leaf x bs (List.range (k + 1))).2 ∧ ∀ t, t < 32 → bs (k + 1) (32 * plc x (k + 1) + t) = (chL leaf x bs (List.range (k + 1))).1 t := by
      conv => lhs; unfold chL; rw [List.range_succ, List.foldl_append]
      exact Iff.rfl
    rw [e, chL_jn leaf x bs k, chL_fst]
    constructor
    · rintro ⟨⟨h0, h⟩, h2⟩
      refine ⟨h0, fun i h1 hi j hj => ?_⟩
      rcases (by omega : i < k + 1 ∨ i = k + 1) with hk | rfl
      · exact h i h1 hk j hj
      · exact h2 j hj
    · rintro ⟨h0, h⟩
      exact ⟨⟨h0, fun i h1 h2 => h i h1 (by omega)⟩, fun j hj => h (k + 1) (by omega) (by omega) j hj⟩
end Go.Proofs.YtapmheocllicnaaDoor

namespace Go.Proofs.YtapmheocllicnaaDoor
open Go.RowKit Go.BigFrame
def putM (b : Nat → BitVec 8) (p : Nat) (d : Nat → BitVec 8) (m j : Nat) : BitVec 8 := if 32 * p ≤ j ∧ j < 32 * p + m then d (j - 32 * p) else b j
theorem exec_storeR' {P : Program} {o : Oper} {a : Act} {w : World} (t : TypeId) (x y : Operand) (ho : o.op = .store t x y) (b n : Nat) (g g' : Nat → Value) (hx : a.eval x = .pointer (some ⟨b, 0, none⟩)) (hy : a.eval y = .agg (row n g').toArray) (h : RowAt b n g w)
    (hi : (P.info? t).map (·.size) = some n) (h1 : ∀ j, j < n → (g' j).oneCell' = true) : (execOp a.eval o).run P w = .ok .skip (w.setCells b 0 (row n g')) := by
  unfold execOp
  simp only [ho, hx, hy, Instr.storeAt, Instr.sureAddr, Sem.run_bind, Sem.run_pure, Result.andThen_ok, run_storeVar_mid (P := P) w b 0 t (row n g').toArray (by rw [row_size]; exact h.there) (by rw [row_size]; exact hi) (row_one h1)]
set_option maxRecDepth 20000 in
set_option maxHeartbeats 8000000 in
theorem rchange_go (n x k : Nat) (h1 : 1 ≤ n) (h2 : n ≤ 4096) (hkN : k = lvN n) (hx : x < n) (leaf : Nat → BitVec 8) (pv : Value) (us : Nat → Value) (ls : Nat → Nat) (bs : Nat → Nat → BitVec 8) (w : World) (hP : Parts pv k us ls bs w) (hls : ∀ i, i < k → ls i = 512) :
    Calls Tryd.prog 24 #[.int .i64 (n : Int), .int .i64 (x : Int), .agg (row 32 (yv leaf)).toArray, pv] w fun e w' =>
      (Jn k x bs ∧ ∃ cv nb nc, e = .returned (.tuple #[cv, .agg (row 32 (yv (rootF n (dF leaf x bs k)))).toArray, .int .i64 0]) ∧ OwnB w.heap.size 23 cv k (chV nb nc) w' ∧ (∀ i, i < k → 512 ≤ nc i ∧ RowAt (nb i) 512 (yv (cF leaf x bs i)) w') ∧ Ext w w') ∨
      (¬ Jn k x bs ∧ e = .returned (.tuple #[.slice none 0 0, .agg (row 32 (yv fun _ => 0#8)).toArray, .int .i64 160]) ∧ Ext w w') := by
  have hk3 := lvN_pos n
  rw [← hkN] at hk3
  obtain ⟨ov, cap, rfl⟩ := hP.form
  obtain ⟨pa, rfl, hal⟩ : ∃ a, ov = some a ∧ LieAt a k us w := by
    rcases hP.1 with ⟨h, h0⟩ | ⟨a, cap', h, _, h3⟩
    · omega
    · injection h with e1 e2 e3
      exact ⟨a, e1, h3⟩
  have each : ∀ i, i < k → ∃ a c, us i = .slice (some a) 512 c ∧ 512 ≤ c ∧ LieAt a 512 (yv (bs i)) w := fun i hi => by
    have h := hP.2 i hi
    rw [hls i hi] at h
    rcases h with ⟨_, h⟩ | ⟨a, c, h1, h2, h3⟩
    · omega
    · exact ⟨a, c, h1, h2, h3⟩
  have hPW : PartsW (.slice (some pa) k cap) k us ls w := ⟨hP.1, fun i hi => (hP.2 i hi).form⟩
  have hz := zero24
  have HL0 := RowAt.new w 32 (yv leaf) 25
  have HE0 : Ext w (w.alloc (.cells (row 32 (yv leaf)).toArray 25)) := (Below.refl _ _).alloc (Nat.le_refl _) _
  have HX0 : Ext (w.alloc (.cells (row 32 (yv leaf)).toArray 25)) ((w.alloc (.cells (row 32 (yv leaf)).toArray 25)).alloc (.cells (row 32 (yv fun _ => 0#8)).toArray 25)) := (Below.refl _ _).alloc (Nat.le_refl _) _
  have HT := RowAt.new (w.alloc (.cells (row 32 (yv leaf)).toArray 25)) 32 (yv fun _ => 0#8) 25
  rw [show (w.alloc (.cells (row 32 (yv leaf)).toArray 25)).heap.size = w.heap.size + 1 by simp] at HT
  replace HT := hideit HT
  have HL := hideit (HL0.carry HX0)
  have HE1 := Ext.trans HE0 HX0
  have kr := rright_any (n : Int) _ k us ls _ (hPW.ext HE1) (by omega)
  rw [isP_true h1 h2 hkN hls] at kr
  have kj : ∀ X, Ext w X → Calls Tryd.prog 39 #[.int .i64 (x : Int), .slice (some pa) k cap] X fun e w' => ((Jn k x bs ∧ e = .returned (.bool true)) ∨ (¬ Jn k x bs ∧ e = .returned (.bool false))) ∧ Ext X w' := fun X hX => rjoined_any x k (by omega) hk3.1 hk3.2 _ us ls bs X (hP.ext hX) hls
  replace kj := hideit kj
  replace each := hideit each
  replace hal := hideit hal
  replace hkN := hideit hkN
  have x0 : ¬ (x : Int) < 0 := by omega
  have x1 : ¬ (n : Int) ≤ (x : Int) := by omega
  clear hP hls hPW
  replace kr := hideit kr
  have HE := hideit HE1
  clear HL0 HE0 HX0 HE1
  go_enter Tryd.func24, Tryd.ntmps24
  go_upto_region 1 with (fail)
  generalize (w.alloc (.cells (row 32 (yv leaf)).toArray 25)).alloc (.cells (row 32 (yv fun _ => 0#8)).toArray 25) = w4 at *
  go_upto_region 3 with (go_at_call 36; refine kr.out.mono ?_; rintro e w5 ⟨rfl, hX5⟩; have HE2 := hideit (Ext.trans HE.out hX5); have HL2 := hideit (HL.out.carry hX5); have HT2 := hideit (HT.out.carry hX5); clear hX5 kr HE HL HT)
  replace kj := hideit (kj.out w5 HE2.out)
  refine wp_region_lit ?_
  refine wpList_run rfl (.int .i64 (x : Int)) (by simp [go_sem]) ?_
  simp only [Act.put, List.setIfInBounds_toArray, List.set_cons_zero, List.set_cons_succ]
  refine wpList_run rfl (.slice (some pa) k cap) (by simp [go_sem]) ?_
  simp only [Act.put, List.setIfInBounds_toArray, List.set_cons_zero, List.set_cons_succ]
  refine wpList_call rfl (by simp [go_sem]) (kj.out.mono ?_)
  rintro e w6 ⟨hj | hj, hX6⟩
  · obtain ⟨hj, rfl⟩ := hj
    replace hj := hideit hj
    refine ⟨_, rfl, ?_⟩
    simp only [Act.put, List.setIfInBounds_toArray, List.set_cons_zero, List.set_cons_succ]
    have HE3 := hideit (Ext.trans HE2.out hX6)
    have HL3 := hideit (HL2.out.carry hX6)
    have HT3 := hideit (HT2.out.carry hX6)
    clear HE2 HL2 HT2 hX6 kj
    go_upto_region 6 with (fail)
    refine wp_region_lit ?_
    refine wpList_run rfl (.agg (row 32 (yv leaf)).toArray) (exec_loadR 25 (.tmp 6) rfl w.heap.size 0 32 _ rfl HL3.out.range Tryd.underlying25 rfl info24) ?_
    simp only [Act.put, List.setIfInBounds_toArray, List.set_cons_zero, List.set_cons_succ]
    have hXa : Ext w6 (w6.alloc (.cells (row 32 (yv fun _ => 0#8)).toArray 25)) := (Below.refl _ _).alloc (Nat.le_refl _) _
    have Ca := RowAt.new w6 32 (yv fun _ => 0#8) 25
    have hlt := HT3.out.2.2
    have HI0 : RI w (w.heap.size + 1) w6.heap.size 0 (fun _ => 0#8) (.slice none 0 0) (fun _ => 0) (fun _ => 0) (cF leaf x bs) (w6.alloc (.cells (row 32 (yv fun _ => 0#8)).toArray 25)) :=
      ⟨by omega, hlt, Ext.trans HE3.out hXa, HT3.out.carry hXa, Ca, own_nil _ _ _ _, fun _ => rfl, fun i hi => absurd hi (by omega)⟩
    have HI1 := hideit (HI0.setD leaf)
    refine wpList_to rfl (.pointer (some ⟨w6.heap.size, 0, none⟩)) (w6.alloc (.cells (row 32 (yv fun _ => 0#8)).toArray 25)) (by simp [go_sem, hz]) ?_
    simp only [Act.put, List.setIfInBounds_toArray, List.set_cons_zero, List.set_cons_succ]
    refine wpList_store_mid rfl 25 (.tmp 12) (.tmp 37) rfl _ 0 (row 32 (yv leaf)).toArray rfl rfl (by rw [row_size]; exact Ca.there) (by rw [row_size]; exact info24) (row_one fun _ _ => rfl) ?_
    rw [show (row 32 (yv leaf)).toArray.toList = row 32 (yv leaf) from rfl]
    generalize (w6.alloc (.cells (row 32 (yv fun _ => 0#8)).toArray 25)).setCells w6.heap.size 0 (row 32 (yv leaf)) = w7 at *
    generalize w6.heap.size = db at *
    clear hXa Ca HI0 HE3 HL3 HT3 hlt
    simp only [Act.put]
    go_wp2
    go_loopw [1, 11, 13] (fun yw cv tv X => ∃ t y nb nc, t ≤ k ∧ y = x / 16 ^ t ∧ yw = .int .i64 ((y : Nat) : Int) ∧ tv = .int .i64 ((t : Nat) : Int) ∧ RI w (w.heap.size + 1) db t (dF leaf x bs t) cv nb nc (cF leaf x bs) X) (fun _ _ tv _ => k - (intOf tv).toNat)
    case atStart => exact ⟨0, x, _, _, Nat.zero_le _, by simp, rfl, rfl, HI1.out⟩
    case round =>
      clear HI1
      obtain ⟨t, y, nb, nc, htk, hy, rfl, rfl, HI⟩ := hrel
      replace HI := hideit HI
      by_cases hlt : t < k
      · obtain ⟨y2, hy2⟩ : ∃ y2, y2 = y / 16 := ⟨_, rfl⟩
        obtain ⟨p, hp⟩ : ∃ p, p = y % 16 := ⟨_, rfl⟩
        have hyx : y ≤ x := by rw [hy]; exact Nat.div_le_self _ _
        have hpow : y2 = x / 16 ^ (t + 1) := by rw [hy2, hy, Nat.div_div_eq_div_mul, ← Nat.pow_succ]
        have hpp : plc x t = p := by rw [hp, hy]; rfl
        have hp16 : p < 16 := by omega
        have eq0 : Int.tdiv (y : Int) 16 = (y2 : Int) := by rw [hy2, Int.tdiv_eq_ediv_of_nonneg (by omega)]; omega
        have ew0 : IntKind.i64.wrap (y2 : Int) = (y2 : Int) := by rw [IntKind.wrap_i64]; omega
        have ep : Int.tmod (y : Int) 16 = (p : Int) := by rw [hp, Int.tmod_eq_emod_of_nonneg (by omega)]; omega
        have em : IntKind.i64.wrap (32 * (p : Int)) = 32 * (p : Int) := by rw [IntKind.wrap_i64]; omega
        have t1 : (t : Int) < (k : Int) := by omega
        obtain ⟨pj, pjc, hpu, hpc, hpl⟩ := each.out t hlt
        have hE : Ext wr (wr.alloc (.cells #[] 5)) := (Below.refl _ _).alloc (Nat.le_refl _) _
        have cs := ((hal.out.carry HI.out.ext).carry hE).1 t hlt
        rw [hpu] at cs
        have hO := hideit (own_empty wr wr.heap.size 5 (yv (bs t)) (Nat.le_refl _))
        have hBV : BV (.slice (some pj) 512 pjc) 512 (bs t) (wr.alloc (.cells #[] 5)) := .inr ⟨pj, pjc, rfl, hpc, (hpl.carry HI.out.ext).carry hE⟩
        replace hBV := hideit hBV
        replace hE := hideit hE
        replace eq0 := hideit eq0
        replace ew0 := hideit ew0
        replace ep := hideit ep
        replace em := hideit em
        replace hpow := hideit hpow
        replace hpp := hideit hpp
        clear hpu hpl hpc hp hy hy2
        go_upto_region 10 with (fail)
        refine wp_region_lit ?_
        refine wpList_to rfl (.slice (some ⟨wr.heap.size, 0, none⟩) 0 0) (wr.alloc (.cells #[] 5)) (by simp [go_sem]) ?_
        simp only [Act.put, List.setIfInBounds_toArray, List.set_cons_zero, List.set_cons_succ]
        refine wpList_run rfl (.slice (some pa) k cap) (by simp [go_sem]) ?_
        simp only [Act.put, List.setIfInBounds_toArray, List.set_cons_zero, List.set_cons_succ]
        refine wpList_run rfl (.int .i64 (t : Int)) (by simp [go_sem]) ?_
        simp only [Act.put, List.setIfInBounds_toArray, List.set_cons_zero, List.set_cons_succ]
        refine wpList_run rfl (.pointer (some (pa.add t))) (by simp [go_sem, t1]) ?_
        simp only [Act.put, List.setIfInBounds_toArray, List.set_cons_zero, List.set_cons_succ]
        refine wpList_run rfl (.slice (some pj) 512 pjc) (by simp [go_sem, cs]) ?_
        simp only [Act.put, List.setIfInBounds_toArray, List.set_cons_zero, List.set_cons_succ]
        refine wpList_growV (n := 0) (base := wr.heap.size) elem22 rfl (.tmp 44) (.tmp 48) rfl rfl hO.out (.slice (some pj) 512 pjc) 512 (bs t) (yv (bs t)) rfl hBV.out (fun _ _ => rfl) (fun j hj => by rw [Nat.zero_add]) (by omega) (Below.size hE.out) ?_
        intro v1 w1 hO1 hg1
        rw [Nat.zero_add] at hO1
        have hE1 := grownE hE.out hO.out (Nat.le_refl _) hg1
        obtain ⟨b, c, rfl, hbW, hc5, -, hR9⟩ := hO1.lies (by decide)
        obtain ⟨Wsz, hWsz⟩ : ∃ Wsz, Wsz = wr.heap.size := ⟨_, rfl⟩
        have hob : ∀ k', u11.ownBlock = some k' → k' < Wsz := fun k' e => by rw [hWsz]; exact (HI.out.own.lt _ e).2
        have hnb : ∀ i, i < t → nb i < Wsz := fun i hi => by rw [hWsz]; exact (HI.out.nodes i hi).2.2.2.2
        have hb3 : db + 1 ≤ b := by have := HI.out.d.2.2; omega
        rw [← hWsz] at hbW
        replace HI := hideit (HI.out.carry hE1)
        have HB := hideit hR9
        clear hO1 hg1 hE1 hR9 hE hO hBV cs hWsz
        simp only [Act.put, List.setIfInBounds_toArray, List.set_cons_zero, List.set_cons_succ]
        go_wp2
        go_loopw [15] (fun mv X => ∃ m : Nat, m ≤ 32 ∧ mv = .int .i64 (m : Int) ∧ RowAt b 512 (yv (putM (bs t) p (dF leaf x bs t) m)) X ∧ But b w1 X) (fun mv _ => 32 - (intOf mv).toNat)
        case atStart => exact ⟨0, by omega, rfl, HB.out.congr fun j hj => by
            show _ = Value.int .u8 ((putM (bs t) p (dF leaf x bs t) 0 j).toNat : Int)
            unfold putM
            rw [if_neg (by omega)]
            rfl, But.refl _ _⟩
        case round =>
          obtain ⟨m, hm, rfl, hR, hBut⟩ := hrel
          replace hR := hideit hR
          replace hBut := hideit hBut
          by_cases hm32 : m < 32
          · obtain ⟨o, ho⟩ : ∃ o, o = 32 * p + m := ⟨_, rfl⟩
            have wo : IntKind.i64.wrap (32 * (p : Int) + (m : Int)) = (o : Int) := by rw [IntKind.wrap_i64]; omega
            replace wo := hideit wo
            have m0 : (0 : Int) ≤ (m : Int) := by omega
            have m1 : (m : Int) < 32 := by omega
            have o1 : (o : Int) < 512 := by omega
            have cd := (HI.out.d.but hBut.out (by omega)).1 m hm32
            have cb := hR.out.1 o (by omega)
            have cb2 := hR.out.2.1 o (by omega)
            have R2 := hideit ((hR.out.set o (.int .u8 ((dF leaf x bs t m).toNat : Int))).congr (g' := yv (putM (bs t) p (dF leaf x bs t) (m + 1))) fun j hj => by
              show _ = Value.int .u8 ((putM (bs t) p (dF leaf x bs t) (m + 1) j).toNat : Int)
              unfold putM
              by_cases hjo : j = o
              · rw [if_pos hjo, if_pos (by omega), show j - 32 * p = m by omega]
              · rw [if_neg hjo]
                by_cases hj2 : 32 * p ≤ j ∧ j < 32 * p + m
                · rw [if_pos (by omega)]
                  show Value.int .u8 ((putM (bs t) p (dF leaf x bs t) m j).toNat : Int) = _
                  unfold putM
                  rw [if_pos hj2]
                · rw [if_neg (by omega)]
                  show Value.int .u8 ((putM (bs t) p (dF leaf x bs t) m j).toNat : Int) = _
                  unfold putM
                  rw [if_neg hj2])
            have B2 := hideit (hBut.out.trans (but_setCell wr b o (.int .u8 ((dF leaf x bs t m).toNat : Int))))
            clear hR hBut
            go_upto_region 14 with (fail)
            refine wp_region_lit ?_
            refine wpList_run rfl (.slice (some ⟨b, 0, none⟩) 512 c) (by simp [go_sem]) ?_
            simp only [Act.put, List.setIfInBounds_toArray, List.set_cons_zero, List.set_cons_succ]
            refine wpList_run rfl (.int .i64 (y : Int)) (by simp [go_sem]) ?_
            simp only [Act.put, List.setIfInBounds_toArray, List.set_cons_zero, List.set_cons_succ]
            refine wpList_run rfl (.int .i64 (p : Int)) (by simp [go_sem, ep.out]) ?_
            simp only [Act.put, List.setIfInBounds_toArray, List.set_cons_zero, List.set_cons_succ]
            refine wpList_run rfl (.int .i64 (32 * (p : Int))) (by simp [go_sem, em.out]) ?_
            simp only [Act.put, List.setIfInBounds_toArray, List.set_cons_zero, List.set_cons_succ]
            refine wpList_run rfl (.int .i64 (m : Int)) (by simp [go_sem]) ?_
            simp only [Act.put, List.setIfInBounds_toArray, List.set_cons_zero, List.set_cons_succ]
            refine wpList_run rfl (.int .i64 (o : Int)) (by simp [go_sem, wo.out]) ?_
            simp only [Act.put, List.setIfInBounds_toArray, List.set_cons_zero, List.set_cons_succ]
            refine wpList_run rfl (.int .i64 (m : Int)) (by simp [go_sem]) ?_
            simp only [Act.put, List.setIfInBounds_toArray, List.set_cons_zero, List.set_cons_succ]
            refine wpList_run rfl (.pointer (some ⟨db, m, none⟩)) (by simp [go_sem, m1]) ?_
            simp only [Act.put, List.setIfInBounds_toArray, List.set_cons_zero, List.set_cons_succ]
            refine wpList_run rfl (.int .u8 ((dF leaf x bs t m).toNat : Int)) (by simp [go_sem, cd, yv]) ?_
            simp only [Act.put, List.setIfInBounds_toArray, List.set_cons_zero, List.set_cons_succ]
            refine wpList_run rfl (.pointer (some ⟨b, o, none⟩)) (by simp [go_sem, o1]) ?_
            simp only [Act.put, List.setIfInBounds_toArray, List.set_cons_zero, List.set_cons_succ]
            refine wpList_st rfl (wr.setCell ⟨b, o, none⟩ (.int .u8 ((dF leaf x bs t m).toNat : Int))) (by simp [go_sem, cb, cb2]) ?_
            generalize wr.setCell ⟨b, o, none⟩ (.int .u8 ((dF leaf x bs t m).toNat : Int)) = w12 at *
            clear cd cb cb2
            simp only [Act.put]
            go_wp2
            exact ⟨⟨m + 1, by omega, by go_num, R2.out, B2.out⟩, by simp [intOf]; omega⟩
          · obtain rfl : m = 32 := by omega
            have m1 : ¬ ((32 : Nat) : Int) < 32 := by omega
            have HI3 := hideit (HI.out.but hBut.out (by omega) (fun i hi => by have h9 := hnb i hi; omega) (fun e => by have h9 : b < Wsz := hob b e; omega))
            have hcf : cF leaf x bs t = putM (bs t) p (dF leaf x bs t) 32 := by unfold cF; rw [hpp.out]; rfl
            rw [← hcf] at hR
            obtain ⟨C, hC⟩ : ∃ C, C = cF leaf x bs t := ⟨_, rfl⟩
            rw [← hC] at hR
            replace hC := hideit hC
            clear HI HB hBut hcf
            have hX5 : Ext wr (wr.alloc (.cells #[.slice (some ⟨b, 0, none⟩) 512 c] 23)) := (Below.refl _ _).alloc (Nat.le_refl _) _
            have hN5 := hideit (lie_us wr 1 #[.slice (some ⟨b, 0, none⟩) 512 c] (fun _ => .slice (some ⟨b, 0, none⟩) 512 c) (fun j hj => by
              have : j = 0 := by omega
              subst this
              rfl) 23)
            have HI4 := hideit (HI3.out.carry hX5)
            have R4 := hideit (hR.out.carry hX5)
            clear HI3 hR
            go_upto_region 15 with (fail)
            refine wp_region_lit ?_
            refine wpList_run rfl (u11) (by simp [go_sem]) ?_
            simp only [Act.put, List.setIfInBounds_toArray, List.set_cons_zero, List.set_cons_succ]
            refine wpList_run rfl (.slice (some ⟨b, 0, none⟩) 512 c) (by simp [go_sem]) ?_
            simp only [Act.put, List.setIfInBounds_toArray, List.set_cons_zero, List.set_cons_succ]
            refine wpList_to rfl (.slice (some ⟨wr.heap.size, 0, none⟩) 1 1) (wr.alloc (.cells #[.slice (some ⟨b, 0, none⟩) 512 c] 23)) (by simp [go_sem]) ?_
            simp only [Act.put, List.setIfInBounds_toArray, List.set_cons_zero, List.set_cons_succ]
            generalize wr.alloc (.cells #[.slice (some ⟨b, 0, none⟩) 512 c] 23) = w16 at *
            generalize wr.heap.size = ab at *
            have hs16 : db + 1 ≤ w16.heap.size := by have := HI4.out.d.2.2; omega
            refine wpList_growE (n := t) (base := db + 1) elem33 rfl (.tmp 64) (.tmp 66) rfl rfl HI4.out.own ⟨ab, 0, none⟩ 1 1 (fun _ => .slice (some ⟨b, 0, none⟩) 512 c) (chV (fun i => if i = t then b else nb i) (fun i => if i = t then c else nc i)) rfl hN5.out (fun _ _ => rfl) (fun i hi => by
              unfold chV
              simp only [show ¬ i = t by omega, if_false]) (fun i hi => by
              rw [show i = 0 by omega]
              unfold chV
              simp only [Nat.add_zero, if_true]) (by omega) (by omega) hs16 ?_
            intro v' Y hO' hg'
            have HI5 := hideit (HI4.out.grow hb3 hc5 R4.out hC.out hg' hO')
            have R5 := hideit (R4.out.grown hg' (own_ne HI4.out.own HI4.out.nil R4.out (by decide) (fun e => by cases e)))
            clear HI4 R4 hN5 hX5 hs16 hg' hO'
            simp only [Act.put, List.setIfInBounds_toArray, List.set_cons_zero, List.set_cons_succ]
            go_upto_region 16 with (fail)
            have kn := rnode_any (t : Int) (BitVec.ofNat 8 t) (by rw [BitVec.toNat_ofNat]; omega) (.slice (some ⟨b, 0, none⟩) 512 c) 512 C Y (.inr ⟨_, c, rfl, hc5, R5.out.lie 512 (Nat.le_refl _)⟩) (by decide)
            rw [show nodeF (BitVec.ofNat 8 t) C 512 = dF leaf x bs (t + 1) by rw [dF_succ, hC.out]] at kn
            obtain ⟨A, hA⟩ : ∃ A, A = dF leaf x bs (t + 1) := ⟨_, rfl⟩
            rw [← hA] at kn
            replace hA := hideit hA
            replace kn := hideit kn
            refine wp_region_lit ?_
            refine wpList_run rfl (.int .i64 (t : Int)) (by simp [go_sem]) ?_
            simp only [Act.put, List.setIfInBounds_toArray, List.set_cons_zero, List.set_cons_succ]
            refine wpList_run rfl (.slice (some ⟨b, 0, none⟩) 512 c) (by simp [go_sem]) ?_
            simp only [Act.put, List.setIfInBounds_toArray, List.set_cons_zero, List.set_cons_succ]
            refine wpList_call rfl (by simp [go_sem]) ((kn.out).mono ?_)
            rintro e w18 ⟨rfl, hX18⟩
            refine ⟨_, rfl, ?_⟩
            simp only [Act.put, List.setIfInBounds_toArray, List.set_cons_zero, List.set_cons_succ]
            have HI6 := hideit (HI5.out.carry hX18)
            clear HI5 R5 hX18 kn
            refine wpList_store_mid rfl 25 (.tmp 12) (.tmp 70) rfl _ 0 (row 32 (yv A)).toArray rfl rfl (by rw [row_size]; exact HI6.out.d.there) (by rw [row_size]; exact info24) (row_one fun _ _ => rfl) ?_
            rw [show (row 32 (yv A)).toArray.toList = row 32 (yv A) from rfl]
            have HI7 := HI6.out.setD A
            rw [hA.out] at HI7
            rw [hA.out]
            replace HI7 := hideit HI7
            generalize w18.setCells db 0 (row 32 (yv (dF leaf x bs (t + 1)))) = w19 at *
            clear HI6
            simp only [Act.put]
            go_upto_region 17 with (fail)
            refine wp_region_lit ?_
            refine wpList_run rfl (.int .i64 (y : Int)) (by simp [go_sem]) ?_
            simp only [Act.put, List.setIfInBounds_toArray, List.set_cons_zero, List.set_cons_succ]
            refine wpList_run rfl (.int .i64 (y2 : Int)) (by simp [go_sem, eq0.out, ew0.out]) ?_
            simp only [Act.put, List.setIfInBounds_toArray, List.set_cons_zero, List.set_cons_succ]
            go_wp2
            exact ⟨⟨t + 1, y2, _, _, by omega, hpow.out, rfl, by go_num, HI7.out⟩, by simp [intOf]; omega⟩
      · obtain rfl : t = k := by omega
        have t1 : ¬ (t : Int) < (t : Int) := by omega
        obtain ⟨q, rfl⟩ : ∃ q, t = q + 1 := ⟨t - 1, by omega⟩
        obtain ⟨vb, vc, hcv, -, -, -, -⟩ := HI.out.own.lies (by omega)
        subst hcv
        have hPt : Parts (.slice (some ⟨vb, 0, none⟩) (q + 1) vc) (q + 1) (chV nb nc) (fun _ => 512) (cF leaf x bs) wr := by
          obtain ⟨vb', vc', e', _, h3, _, hR⟩ := HI.out.own.lies (by omega)
          injection e' with e1 e2 e3
          cases e1
          exact ⟨.inr ⟨_, vc, rfl, by omega, hR.lie _ (Nat.le_refl _)⟩, fun i hi => .inr ⟨_, nc i, rfl, (HI.out.nodes i hi).2.1, (HI.out.nodes i hi).2.2.lie 512 (Nat.le_refl _)⟩⟩
        have kr := rroot_ok n (q + 1) h1 h2 hkN.out _ _ _ _ wr hPt (fun _ _ => rfl)
        obtain ⟨R, hR⟩ : ∃ R, R = rootF n (dF leaf x bs (q + 1)) := ⟨_, rfl⟩
        rw [Nat.add_sub_cancel, ← dF_succ, ← hR] at kr
        replace kr := hideit kr
        replace hR := hideit hR
        clear hPt
        go_upto_region 18 with (fail)
        refine wp_region_lit ?_
        refine wpList_run rfl (.int .i64 (n : Int)) (by simp [go_sem]) ?_
        simp only [Act.put, List.setIfInBounds_toArray, List.set_cons_zero, List.set_cons_succ]
        refine wpList_run rfl (.slice (some ⟨vb, 0, none⟩) (q + 1) vc) (by simp [go_sem]) ?_
        simp only [Act.put, List.setIfInBounds_toArray, List.set_cons_zero, List.set_cons_succ]
        refine wpList_call rfl (by simp [go_sem]) ((kr.out).mono ?_)
        rintro e w20 ⟨rfl, hX20⟩
        refine ⟨_, rfl, ?_⟩
        simp only [Act.put, List.setIfInBounds_toArray, List.set_cons_zero, List.set_cons_succ]
        refine wpList_run rfl (.tuple #[.agg (row 32 (yv R)).toArray, .int .i64 0]) (by simp [go_sem]) ?_
        simp only [Act.put, List.setIfInBounds_toArray, List.set_cons_zero, List.set_cons_succ]
        refine wpList_run rfl (.agg (row 32 (yv R)).toArray) (by simp [go_sem]) ?_
        simp only [Act.put, List.setIfInBounds_toArray, List.set_cons_zero, List.set_cons_succ]
        refine wpList_run rfl (.int .i64 0) (by simp [go_sem]) ?_
        simp only [Act.put, List.setIfInBounds_toArray, List.set_cons_zero, List.set_cons_succ]
        have HI2 := HI.out.carry hX20
        have hXa : Ext w20 (w20.alloc (.cells (row 32 (yv fun _ => 0#8)).toArray 25)) := (Below.refl _ _).alloc (Nat.le_refl _) _
        have Ca := RowAt.new w20 32 (yv fun _ => 0#8) 25
        have hYa := below_setCells (w := w20) w20.heap.size (Nat.le_refl _) (row 32 (yv R)) 0 _ hXa
        have HG := hideit (Ca.cells (g' := yv R))
        have HI3 := hideit (HI2.carry hYa)
        have hrt : w.heap.size + 1 < w20.heap.size := HI2.r.2.2
        refine wpList_to rfl (.pointer (some ⟨w20.heap.size, 0, none⟩)) (w20.alloc (.cells (row 32 (yv fun _ => 0#8)).toArray 25)) (by simp [go_sem, hz]) ?_
        simp only [Act.put, List.setIfInBounds_toArray, List.set_cons_zero, List.set_cons_succ]
        refine wpList_store_mid rfl 25 (.tmp 16) (.tmp 77) rfl _ 0 (row 32 (yv R)).toArray rfl rfl (by rw [row_size]; exact Ca.there) (by rw [row_size]; exact info24) (row_one fun _ _ => rfl) ?_
        rw [show (row 32 (yv R)).toArray.toList = row 32 (yv R) from rfl]
        generalize (w20.alloc (.cells (row 32 (yv fun _ => 0#8)).toArray 25)).setCells w20.heap.size 0 (row 32 (yv R)) = w21 at *
        generalize w20.heap.size = sb at *
        clear hXa Ca hYa hX20 kr HI2 HI
        simp only [Act.put]
        go_upto_region 19 with (fail)
        have HI4 := hideit (HI3.out.carry (Ext.refl w21).draw)
        have HG4 := hideit HG.out.drew
        clear HI3 HG
        refine wp_region_lad (fun X => RowAt sb 32 (yv R) X) [(false, 0), (false, 1), (false, 2), (true, 3), (false, 4)] (by kernel_rfl) (by kernel_rfl) (by decide +kernel) (by decide +kernel) (by decide +kernel) (by decide +kernel) HG4.out ?_
        refine wpX_f _ (.slice (some ⟨vb, 0, none⟩) (q + 1) vc) rfl rfl (fun X _ => by simp [go_sem]) ?_
        simp only [List.getElem_toArray, List.getElem_cons_zero, Act.put, List.setIfInBounds_toArray, List.set_cons_zero, List.set_cons_succ]
        refine wpX_f _ (.agg (row 32 (yv R)).toArray) rfl rfl (fun X hX => exec_loadR 25 (.tmp 16) rfl sb 0 32 _ rfl hX.range Tryd.underlying25 rfl info24) ?_
        simp only [List.getElem_toArray, List.getElem_cons_zero, List.getElem_cons_succ, Act.put, List.setIfInBounds_toArray, List.set_cons_zero, List.set_cons_succ]
        refine wpX_f _ (.slice (some ⟨vb, 0, none⟩) (q + 1) vc) rfl rfl (fun X _ => by simp [go_sem]) ?_
        simp only [List.getElem_toArray, List.getElem_cons_zero, List.getElem_cons_succ, Act.put, List.setIfInBounds_toArray, List.set_cons_zero, List.set_cons_succ]
        have hl2 := HI4.out.lt2
        have hB2 := But.sets (c := w.heap.size + 1) (row 32 (yv R)) 0 w21.drew (But.refl _ _)
        have Rr := hideit (HI4.out.r.cells (g' := yv R))
        have Rg := HG4.out.but hB2 (by omega)
        have Ro := hideit (HI4.out.own.but hB2 (fun e => by have h9 := (HI4.out.own.lt _ e).1; omega))
        have Rn := hideit (fun i (hi : i < q + 1) => And.intro (HI4.out.nodes i hi).2.1 ((HI4.out.nodes i hi).2.2.but hB2 (by have := (HI4.out.nodes i hi).1; omega)))
        have Re := hideit (Ext.but HI4.out.ext hB2 (by omega))
        refine wpX_st _ (w21.drew.setCells (w.heap.size + 1) 0 (row 32 (yv R))) rfl rfl (exec_storeR' 25 (.tmp 9) (.tmp 80) rfl (w.heap.size + 1) 32 _ _ rfl rfl HI4.out.r info24 (fun _ _ => rfl)) (fun X => RowAt sb 32 (yv R) X) (fun X hX => hX) Rg ?_
        simp only [List.getElem_toArray, List.getElem_cons_zero, List.getElem_cons_succ, Act.put]
        generalize w21.drew.setCells (w.heap.size + 1) 0 (row 32 (yv R)) = w22 at *
        clear HI4 HG4 hB2 Rg
        refine wpX_f _ (.int .i64 0) rfl rfl (fun X _ => by simp [go_sem]) ?_
        simp only [List.getElem_toArray, List.getElem_cons_zero, List.getElem_cons_succ, Act.put, List.setIfInBounds_toArray, List.set_cons_zero, List.set_cons_succ]
        refine wpX_nil ?_
        go_wp2
        exact bodyPost_ret (ret_row3 Tryd.results24 rfl Rr.out Tryd.underlying25 rfl info24) rfl (.inl ⟨hj.out, _, by rw [← hR.out]; rfl, nb, nc, Ro.out.down (by omega), Rn.out, Re.out⟩)
  · obtain ⟨hj, rfl⟩ := hj
    replace hj := hideit hj
    refine ⟨_, rfl, ?_⟩
    simp only [Act.put, List.setIfInBounds_toArray, List.set_cons_zero, List.set_cons_succ]
    replace HE2 := hideit (Ext.trans HE2.out hX6)
    replace HL2 := hideit (HL2.out.carry hX6)
    replace HT2 := hideit (HT2.out.carry hX6)
    clear hX6 kj
    go_upto_region 4 with (fail)
    refine wp_region_lit ?_
    refine wpList_build rfl 25 [] rfl (.agg (row 32 (yv fun _ => 0#8)).toArray) (build25 _) ?_
    simp only [Act.put, List.setIfInBounds_toArray, List.set_cons_zero, List.set_cons_succ]
    refine wpList_run rfl (.slice none 0 0) (by simp [go_sem]) ?_
    simp only [Act.put, List.setIfInBounds_toArray, List.set_cons_zero, List.set_cons_succ]
    refine wpList_store_mid rfl 25 (.tmp 9) (.tmp 36) rfl _ 0 (row 32 (yv fun _ => 0#8)).toArray rfl rfl (by rw [row_size]; exact HT2.out.there) (by rw [row_size]; exact info24) (row_one fun _ _ => rfl) ?_
    have res8 := hideit (HT2.out.cells (g' := yv fun _ => 0#8))
    have hE8 := hideit (below_setCells (w := w) (w.heap.size + 1) (by omega) (row 32 (yv fun _ => 0#8)) 0 w6 HE2.out)
    rw [show (row 32 (yv fun _ => 0#8)).toArray.toList = row 32 (yv fun _ => 0#8) from rfl]
    generalize w6.setCells (w.heap.size + 1) 0 (row 32 (yv fun _ => 0#8)) = w8 at *
    clear HT2 HE2 HL2
    simp only [Act.put]
    go_wp2
    exact bodyPost_ret (ret_row3 Tryd.results24 rfl res8.out Tryd.underlying25 rfl info24) rfl (.inr ⟨hj.out, rfl, hE8.out⟩)
end Go.Proofs.YtapmheocllicnaaDoor

namespace Go.Proofs.YtapmheocllicnaaDoor
open Go.RowKit Go.BigFrame Go.Shelf
attribute [local go_sem] Oper.semAt_some
set_option maxRecDepth 20000 in
set_option maxHeartbeats 2000000 in
theorem change_path (n i : Int) (k : Nat) (leaf : Nat → BitVec 8) (pv : Value) (us : Nat → Value) (ls : Nat → Nat) (w : World) (hP : PartsW pv k us ls w) (hk : k ≤ 9223372036854775807) (hno : isP n k ls = false) :
    Calls Tryd.prog 23 #[.int .i64 n, .int .i64 i, .agg (row 32 (yv leaf)).toArray, pv] w fun e w' => e = .returned (.tuple #[.slice none 0 0, .agg (row 32 (yv fun _ => 0#8)).toArray, .int .i64 1]) ∧ Ext w w' := by
  obtain ⟨ov, cap, rfl⟩ := hP.form
  obtain ⟨M1, M2, M3, M4, M5, M6, M7⟩ := chg_mem w leaf (.slice ov k cap)
  have kp := pathw_any n (.slice ov k cap) k us ls _ (hP.ext M6) hk
  rw [hno] at kp
  replace kp := hideit kp
  have e2 := M2.1 0 (by decide)
  replace M3 := hideit M3
  replace M4 := hideit M4
  replace M5 := hideit M5
  replace M6 := hideit M6
  clear M1 M2 hP hno M7
  refine (callsIn_wide (n := 4)).1 (callsIn_of_wp_marks Tryd.func23 rfl trivial ?_ rfl)
  refine wpIn_wide.2 ?_
  simp only [Tryd.ntmps23, List.size_toArray, List.length_cons, List.length_nil, Nat.reduceAdd, Nat.reduceSub, Array.replicate_succ, Array.replicate_zero, List.push_toArray, List.append_toArray, List.nil_append, List.cons_append]
  have hz := zero24
  go_upto_region 1 with (fail)
  generalize ((((w.alloc (.cells (row 32 (yv leaf)).toArray 25)).alloc (.cells #[.slice ov k cap] 33)).alloc (.cells #[.slice none 0 0] 33)).alloc (.cells (row 32 (yv fun _ => 0#8)).toArray 25)).alloc (.cells #[.int .i64 0] 26) = w4 at *
  go_upto_region 2 with (go_at_call 33; refine kp.out.mono ?_; rintro e w5 ⟨rfl, hX5⟩; have N3 := hideit (M3.out.carry hX5); have N4 := hideit (M4.out.carry hX5); have N5 := hideit (M5.out.carry hX5); have N6 := hideit (Ext.trans M6.out hX5); clear hX5 M3 M4 M5 M6 kp e2)
  refine wp_region_lit ?_
  refine wpList_build rfl 25 [] rfl (.agg (row 32 (yv fun _ => 0#8)).toArray) (build25 _) ?_
  simp only [Act.put, List.setIfInBounds_toArray, List.set_cons_zero, List.set_cons_succ]
  have e1 := N3.out.1 0 (by decide)
  have e2 := N3.out.2.1 0 (by decide)
  refine wpList_st rfl (w5.setCell ⟨w.heap.size + 2, 0, none⟩ (.slice none 0 0)) (by simp [go_sem, e1, e2]) ?_
  simp only [Act.put]
  have Ra := (N3.out.set 0 (.slice none 0 0)).congr (g' := fun _ => .slice none 0 0) fun t ht => by rw [if_pos (by omega)]
  have Rb := N4.out.other ⟨w.heap.size + 2, 0, none⟩ (.slice none 0 0) (by show w.heap.size + 2 ≠ w.heap.size + 3; omega)
  have Rc := N5.out.other ⟨w.heap.size + 2, 0, none⟩ (.slice none 0 0) (by show w.heap.size + 2 ≠ w.heap.size + 4; omega)
  have Re := Below.setCell (p := ⟨w.heap.size + 2, 0, none⟩) N6.out (by show w.heap.size ≤ w.heap.size + 2; omega) (.slice none 0 0)
  clear e1 e2 N3 N4 N5 N6
  generalize w5.setCell ⟨w.heap.size + 2, 0, none⟩ (.slice none 0 0) = w11 at *
  refine wpList_store_mid rfl 25 (.tmp 9) (.tmp 30) rfl _ 0 (row 32 (yv fun _ => 0#8)).toArray rfl rfl (by rw [row_size]; exact Rb.there) (by rw [row_size]; exact info24) (row_one fun _ _ => rfl) ?_
  rw [show (row 32 (yv fun _ => 0#8)).toArray.toList = row 32 (yv fun _ => 0#8) from rfl]
  replace Ra := Ra.cellsOther (c := w.heap.size + 3) (by omega) (row 32 (yv fun _ => 0#8)) 0
  replace Rb := Rb.cells (g' := yv fun _ => 0#8)
  replace Rc := Rc.cellsOther (c := w.heap.size + 3) (by omega) (row 32 (yv fun _ => 0#8)) 0
  replace Re := below_setCells (w := w) (w.heap.size + 3) (by omega) (row 32 (yv fun _ => 0#8)) 0 _ Re
  generalize w11.setCells (w.heap.size + 3) 0 (row 32 (yv fun _ => 0#8)) = w12 at *
  have e3 := Rc.1 0 (by decide)
  have e4 := Rc.2.1 0 (by decide)
  simp only [Act.put]
  refine wpList_st rfl (w12.setCell ⟨w.heap.size + 4, 0, none⟩ (.int .i64 1)) (by simp [go_sem, e3, e4]) ?_
  have f1 := (Ra.other ⟨w.heap.size + 4, 0, none⟩ (.int .i64 1) (by show w.heap.size + 4 ≠ w.heap.size + 2; omega)).1 0 (by decide)
  have f2 := hideit (Rb.other ⟨w.heap.size + 4, 0, none⟩ (.int .i64 1) (by show w.heap.size + 4 ≠ w.heap.size + 3; omega))
  have f3 := ((Rc.set 0 (.int .i64 1)).congr (g' := fun _ => .int .i64 1) fun t ht => by rw [if_pos (by omega)]).1 0 (by decide)
  have hE9 := hideit (Below.setCell (p := ⟨w.heap.size + 4, 0, none⟩) Re (by show w.heap.size ≤ w.heap.size + 4; omega) (.int .i64 1))
  replace f1 := hideit f1
  replace f3 := hideit f3
  generalize w12.setCell ⟨w.heap.size + 4, 0, none⟩ (.int .i64 1) = w13 at *
  clear e3 e4 Ra Rb Rc Re
  simp only [Act.put]
  go_wp2
  exact postM_ret rfl (v := .tuple #[.slice none 0 0, .agg (row 32 (yv fun _ => 0#8)).toArray, .int .i64 1]) (ret_chg Tryd.results23 rfl rfl rfl f1.out f2.out f3.out) ⟨rfl, hE9.out⟩
set_option maxRecDepth 20000 in
set_option maxHeartbeats 2000000 in
theorem change_place (n i : Int) (k : Nat) (leaf : Nat → BitVec 8) (pv : Value) (us : Nat → Value) (ls : Nat → Nat) (w : World) (hP : PartsW pv k us ls w) (hk : k ≤ 9223372036854775807) (hyes : isP n k ls = true) (hi : i < 0 ∨ n ≤ i) :
    Calls Tryd.prog 23 #[.int .i64 n, .int .i64 i, .agg (row 32 (yv leaf)).toArray, pv] w fun e w' => e = .returned (.tuple #[.slice none 0 0, .agg (row 32 (yv fun _ => 0#8)).toArray, .int .i64 1]) ∧ Ext w w' := by
  obtain ⟨ov, cap, rfl⟩ := hP.form
  obtain ⟨M1, M2, M3, M4, M5, M6, M7⟩ := chg_mem w leaf (.slice ov k cap)
  have kp := pathw_any n (.slice ov k cap) k us ls _ (hP.ext M6) hk
  rw [hyes] at kp
  replace kp := hideit kp
  have e2 := M2.1 0 (by decide)
  replace M3 := hideit M3
  replace M4 := hideit M4
  replace M5 := hideit M5
  replace M6 := hideit M6
  clear M1 M2 hP hyes M7
  refine (callsIn_wide (n := 4)).1 (callsIn_of_wp_marks Tryd.func23 rfl trivial ?_ rfl)
  refine wpIn_wide.2 ?_
  simp only [Tryd.ntmps23, List.size_toArray, List.length_cons, List.length_nil, Nat.reduceAdd, Nat.reduceSub, Array.replicate_succ, Array.replicate_zero, List.push_toArray, List.append_toArray, List.nil_append, List.cons_append]
  have hz := zero24
  go_upto_region 1 with (fail)
  generalize ((((w.alloc (.cells (row 32 (yv leaf)).toArray 25)).alloc (.cells #[.slice ov k cap] 33)).alloc (.cells #[.slice none 0 0] 33)).alloc (.cells (row 32 (yv fun _ => 0#8)).toArray 25)).alloc (.cells #[.int .i64 0] 26) = w4 at *
  by_cases i0 : i < 0
  · clear hi
    go_upto_region 2 with (go_at_call 33; refine kp.out.mono ?_; rintro e w5 ⟨rfl, hX5⟩; have N3 := hideit (M3.out.carry hX5); have N4 := hideit (M4.out.carry hX5); have N5 := hideit (M5.out.carry hX5); have N6 := hideit (Ext.trans M6.out hX5); clear hX5 M3 M4 M5 M6 kp e2)
    refine wp_region_lit ?_
    refine wpList_build rfl 25 [] rfl (.agg (row 32 (yv fun _ => 0#8)).toArray) (build25 _) ?_
    simp only [Act.put, List.setIfInBounds_toArray, List.set_cons_zero, List.set_cons_succ]
    have e1 := N3.out.1 0 (by decide)
    have e2 := N3.out.2.1 0 (by decide)
    refine wpList_st rfl (w5.setCell ⟨w.heap.size + 2, 0, none⟩ (.slice none 0 0)) (by simp [go_sem, e1, e2]) ?_
    simp only [Act.put]
    have Ra := (N3.out.set 0 (.slice none 0 0)).congr (g' := fun _ => .slice none 0 0) fun t ht => by rw [if_pos (by omega)]
    have Rb := N4.out.other ⟨w.heap.size + 2, 0, none⟩ (.slice none 0 0) (by show w.heap.size + 2 ≠ w.heap.size + 3; omega)
    have Rc := N5.out.other ⟨w.heap.size + 2, 0, none⟩ (.slice none 0 0) (by show w.heap.size + 2 ≠ w.heap.size + 4; omega)
    have Re := Below.setCell (p := ⟨w.heap.size + 2, 0, none⟩) N6.out (by show w.heap.size ≤ w.heap.size + 2; omega) (.slice none 0 0)
    clear e1 e2 N3 N4 N5 N6
    generalize w5.setCell ⟨w.heap.size + 2, 0, none⟩ (.slice none 0 0) = w11 at *
    refine wpList_store_mid rfl 25 (.tmp 9) (.tmp 30) rfl _ 0 (row 32 (yv fun _ => 0#8)).toArray rfl rfl (by rw [row_size]; exact Rb.there) (by rw [row_size]; exact info24) (row_one fun _ _ => rfl) ?_
    rw [show (row 32 (yv fun _ => 0#8)).toArray.toList = row 32 (yv fun _ => 0#8) from rfl]
    replace Ra := Ra.cellsOther (c := w.heap.size + 3) (by omega) (row 32 (yv fun _ => 0#8)) 0
    replace Rb := Rb.cells (g' := yv fun _ => 0#8)
    replace Rc := Rc.cellsOther (c := w.heap.size + 3) (by omega) (row 32 (yv fun _ => 0#8)) 0
    replace Re := below_setCells (w := w) (w.heap.size + 3) (by omega) (row 32 (yv fun _ => 0#8)) 0 _ Re
    generalize w11.setCells (w.heap.size + 3) 0 (row 32 (yv fun _ => 0#8)) = w12 at *
    have e3 := Rc.1 0 (by decide)
    have e4 := Rc.2.1 0 (by decide)
    simp only [Act.put]
    refine wpList_st rfl (w12.setCell ⟨w.heap.size + 4, 0, none⟩ (.int .i64 1)) (by simp [go_sem, e3, e4]) ?_
    have f1 := (Ra.other ⟨w.heap.size + 4, 0, none⟩ (.int .i64 1) (by show w.heap.size + 4 ≠ w.heap.size + 2; omega)).1 0 (by decide)
    have f2 := hideit (Rb.other ⟨w.heap.size + 4, 0, none⟩ (.int .i64 1) (by show w.heap.size + 4 ≠ w.heap.size + 3; omega))
    have f3 := ((Rc.set 0 (.int .i64 1)).congr (g' := fun _ => .int .i64 1) fun t ht => by rw [if_pos (by omega)]).1 0 (by decide)
    have hE9 := hideit (Below.setCell (p := ⟨w.heap.size + 4, 0, none⟩) Re (by show w.heap.size ≤ w.heap.size + 4; omega) (.int .i64 1))
    replace f1 := hideit f1
    replace f3 := hideit f3
    generalize w12.setCell ⟨w.heap.size + 4, 0, none⟩ (.int .i64 1) = w13 at *
    clear e3 e4 Ra Rb Rc Re
    simp only [Act.put]
    go_wp2
    exact postM_ret rfl (v := .tuple #[.slice none 0 0, .agg (row 32 (yv fun _ => 0#8)).toArray, .int .i64 1]) (ret_chg Tryd.results23 rfl rfl rfl f1.out f2.out f3.out) ⟨rfl, hE9.out⟩
  · have i1 : n ≤ i := by omega
    clear hi
    go_upto_region 2 with (go_at_call 33; refine kp.out.mono ?_; rintro e w5 ⟨rfl, hX5⟩; have N3 := hideit (M3.out.carry hX5); have N4 := hideit (M4.out.carry hX5); have N5 := hideit (M5.out.carry hX5); have N6 := hideit (Ext.trans M6.out hX5); clear hX5 M3 M4 M5 M6 kp e2)
    refine wp_region_lit ?_
    refine wpList_build rfl 25 [] rfl (.agg (row 32 (yv fun _ => 0#8)).toArray) (build25 _) ?_
    simp only [Act.put, List.setIfInBounds_toArray, List.set_cons_zero, List.set_cons_succ]
    have e1 := N3.out.1 0 (by decide)
    have e2 := N3.out.2.1 0 (by decide)
    refine wpList_st rfl (w5.setCell ⟨w.heap.size + 2, 0, none⟩ (.slice none 0 0)) (by simp [go_sem, e1, e2]) ?_
    simp only [Act.put]
    have Ra := (N3.out.set 0 (.slice none 0 0)).congr (g' := fun _ => .slice none 0 0) fun t ht => by rw [if_pos (by omega)]
    have Rb := N4.out.other ⟨w.heap.size + 2, 0, none⟩ (.slice none 0 0) (by show w.heap.size + 2 ≠ w.heap.size + 3; omega)
    have Rc := N5.out.other ⟨w.heap.size + 2, 0, none⟩ (.slice none 0 0) (by show w.heap.size + 2 ≠ w.heap.size + 4; omega)
    have Re := Below.setCell (p := ⟨w.heap.size + 2, 0, none⟩) N6.out (by show w.heap.size ≤ w.heap.size + 2; omega) (.slice none 0 0)
    clear e1 e2 N3 N4 N5 N6
    generalize w5.setCell ⟨w.heap.size + 2, 0, none⟩ (.slice none 0 0) = w11 at *
    refine wpList_store_mid rfl 25 (.tmp 9) (.tmp 30) rfl _ 0 (row 32 (yv fun _ => 0#8)).toArray rfl rfl (by rw [row_size]; exact Rb.there) (by rw [row_size]; exact info24) (row_one fun _ _ => rfl) ?_
    rw [show (row 32 (yv fun _ => 0#8)).toArray.toList = row 32 (yv fun _ => 0#8) from rfl]
    replace Ra := Ra.cellsOther (c := w.heap.size + 3) (by omega) (row 32 (yv fun _ => 0#8)) 0
    replace Rb := Rb.cells (g' := yv fun _ => 0#8)
    replace Rc := Rc.cellsOther (c := w.heap.size + 3) (by omega) (row 32 (yv fun _ => 0#8)) 0
    replace Re := below_setCells (w := w) (w.heap.size + 3) (by omega) (row 32 (yv fun _ => 0#8)) 0 _ Re
    generalize w11.setCells (w.heap.size + 3) 0 (row 32 (yv fun _ => 0#8)) = w12 at *
    have e3 := Rc.1 0 (by decide)
    have e4 := Rc.2.1 0 (by decide)
    simp only [Act.put]
    refine wpList_st rfl (w12.setCell ⟨w.heap.size + 4, 0, none⟩ (.int .i64 1)) (by simp [go_sem, e3, e4]) ?_
    have f1 := (Ra.other ⟨w.heap.size + 4, 0, none⟩ (.int .i64 1) (by show w.heap.size + 4 ≠ w.heap.size + 2; omega)).1 0 (by decide)
    have f2 := hideit (Rb.other ⟨w.heap.size + 4, 0, none⟩ (.int .i64 1) (by show w.heap.size + 4 ≠ w.heap.size + 3; omega))
    have f3 := ((Rc.set 0 (.int .i64 1)).congr (g' := fun _ => .int .i64 1) fun t ht => by rw [if_pos (by omega)]).1 0 (by decide)
    have hE9 := hideit (Below.setCell (p := ⟨w.heap.size + 4, 0, none⟩) Re (by show w.heap.size ≤ w.heap.size + 4; omega) (.int .i64 1))
    replace f1 := hideit f1
    replace f3 := hideit f3
    generalize w12.setCell ⟨w.heap.size + 4, 0, none⟩ (.int .i64 1) = w13 at *
    clear e3 e4 Ra Rb Rc Re
    simp only [Act.put]
    go_wp2
    exact postM_ret rfl (v := .tuple #[.slice none 0 0, .agg (row 32 (yv fun _ => 0#8)).toArray, .int .i64 1]) (ret_chg Tryd.results23 rfl rfl rfl f1.out f2.out f3.out) ⟨rfl, hE9.out⟩
end Go.Proofs.YtapmheocllicnaaDoor

namespace Go.Proofs.YtapmheocllicnaaDoor
open Go.RowKit Go.BigFrame
open Classical
set_option maxRecDepth 20000 in
set_option maxHeartbeats 2000000 in
theorem troot_now (n : Int) (k : Nat) (pv : Value) (us : Nat → Value) (ls : Nat → Nat) (w : World) (hP : PartsW pv k us ls w) (hk : k ≤ 9223372036854775807) (hno : isP n k ls = false) :
    Calls Tryd.prog 20 #[.int .i64 n, pv] w fun e w' => e = .returned (.tuple #[.agg (row 32 (yv fun _ => 0#8)).toArray, .int .i64 1]) ∧ Ext w w' := by
  have hz := zero24
  have HR0 := hideit (RowAt.new w 32 (yv fun _ => 0#8) 25)
  have HE0 : Ext w (w.alloc (.cells (row 32 (yv fun _ => 0#8)).toArray 25)) := (Below.refl _ _).alloc (Nat.le_refl _) _
  have kp := pathw_any n pv k us ls _ (hP.ext HE0) hk
  rw [hno] at kp
  replace kp := hideit kp
  replace HE0 := hideit HE0
  clear hP hno
  go_enter Tryd.func20, Tryd.ntmps20
  go_upto_region 1 with (fail)
  generalize w.alloc (.cells (row 32 (yv fun _ => 0#8)).toArray 25) = w1 at *
  go_upto_region 2 with (go_at_call 33; refine kp.out.mono ?_; rintro e w5 ⟨rfl, hX5⟩; have HR1 := hideit (HR0.out.carry hX5); have HE1 := hideit (Ext.trans HE0.out hX5); clear hX5 HR0 HE0 kp)
  refine wp_region_lit ?_
  refine wpList_build rfl 25 [] rfl (.agg (row 32 (yv fun _ => 0#8)).toArray) (build25 _) ?_
  simp only [Act.put, List.setIfInBounds_toArray, List.set_cons_zero, List.set_cons_succ]
  refine wpList_store_mid rfl 25 (.tmp 4) (.tmp 11) rfl _ 0 (row 32 (yv fun _ => 0#8)).toArray rfl rfl (by rw [row_size]; exact HR1.out.there) (by rw [row_size]; exact info24) (row_one fun _ _ => rfl) ?_
  have res8 := hideit (HR1.out.cells (g' := yv fun _ => 0#8))
  have hE8 := hideit (below_setCells w.heap.size (Nat.le_refl _) (row 32 (yv fun _ => 0#8)) 0 w5 HE1.out)
  rw [show (row 32 (yv fun _ => 0#8)).toArray.toList = row 32 (yv fun _ => 0#8) from rfl]
  generalize w5.setCells w.heap.size 0 (row 32 (yv fun _ => 0#8)) = w8 at *
  clear HR1 HE1
  simp only [Act.put]
  go_wp2
  exact bodyPost_ret (ret_row2 Tryd.results20 rfl res8.out Tryd.underlying25 rfl info24) rfl ⟨rfl, hE8.out⟩
noncomputable def rtR (n : Int) (k : Nat) (ls : Nat → Nat) (bs : Nat → Nat → BitVec 8) : Nat → BitVec 8 := if isP n k ls = true then rootF n.toNat (nodeF (BitVec.ofNat 8 (k - 1)) (bs (k - 1)) 512) else fun _ => 0#8
noncomputable def rtZ (n : Int) (k : Nat) (ls : Nat → Nat) : Int := if isP n k ls = true then 0 else 1
theorem troot_all (n : Int) (k : Nat) (pv : Value) (us : Nat → Value) (ls : Nat → Nat) (bs : Nat → Nat → BitVec 8) (w : World) (hP : WA pv k us ls bs w) (hC : TabC w) :
    Calls Tryd.prog 20 #[.int .i64 n, pv] w fun e w' => e = .returned (.tuple #[.agg (row 32 (yv (rtR n k ls bs))).toArray, .int .i64 (rtZ n k ls)]) ∧ Ext w w' := by
  cases hp : isP n k ls with
  | false =>
    rw [show rtR n k ls bs = fun _ => 0#8 by unfold rtR; rw [hp]; rfl, show rtZ n k ls = 1 by unfold rtZ; rw [hp]; rfl]
    exact troot_now n k pv us ls w hP.w hP.most hp
  | true =>
    rw [show rtR n k ls bs = rootF n.toNat (nodeF (BitVec.ofNat 8 (k - 1)) (bs (k - 1)) 512) by unfold rtR; rw [hp]; rfl, show rtZ n k ls = 0 by unfold rtZ; rw [hp]; rfl]
    obtain ⟨m, rfl, h1, h2, h3, h4⟩ := isP_spec hp
    rw [Int.toNat_natCast]
    exact troot_ok m k h1 h2 h3 pv us ls bs w (hP.parts h4) h4 hC
theorem rroot_all (n : Int) (k : Nat) (pv : Value) (us : Nat → Value) (ls : Nat → Nat) (bs : Nat → Nat → BitVec 8) (w : World) (hP : WA pv k us ls bs w) :
    Calls Tryd.prog 22 #[.int .i64 n, pv] w fun e w' => e = .returned (.tuple #[.agg (row 32 (yv (rtR n k ls bs))).toArray, .int .i64 (rtZ n k ls)]) ∧ Ext w w' := by
  cases hp : isP n k ls with
  | false =>
    rw [show rtR n k ls bs = fun _ => 0#8 by unfold rtR; rw [hp]; rfl, show rtZ n k ls = 1 by unfold rtZ; rw [hp]; rfl]
    exact rroot_no n k pv us ls w hP.w hP.most hp
  | true =>
    rw [show rtR n k ls bs = rootF n.toNat (nodeF (BitVec.ofNat 8 (k - 1)) (bs (k - 1)) 512) by unfold rtR; rw [hp]; rfl, show rtZ n k ls = 0 by unfold rtZ; rw [hp]; rfl]
    obtain ⟨m, rfl, h1, h2, h3, h4⟩ := isP_spec hp
    rw [Int.toNat_natCast]
    exact rroot_ok m k h1 h2 h3 pv us ls bs w (hP.parts h4) h4
/-- what Change tells -/
structure ChE (n i : Int) (k : Nat) (ls : Nat → Nat) (leaf : Nat → BitVec 8) (bs : Nat → Nat → BitVec 8) (q : Nat) (r : Nat → BitVec 8) (z : Int) : Prop where
  no : ¬ (isP n k ls = true ∧ 0 ≤ i ∧ i < n) → q = 0 ∧ r = (fun _ => 0#8) ∧ z = 1
  ill : (isP n k ls = true ∧ 0 ≤ i ∧ i < n) → ¬ Jn k i.toNat bs → q = 0 ∧ r = (fun _ => 0#8) ∧ z = 160
  ok : (isP n k ls = true ∧ 0 ≤ i ∧ i < n) → Jn k i.toNat bs → q = k ∧ r = rootF n.toNat (dF leaf i.toNat bs k) ∧ z = 0
theorem ChE.one {n i : Int} {k : Nat} {ls : Nat → Nat} {leaf : Nat → BitVec 8} {bs : Nat → Nat → BitVec 8} {q q' : Nat} {r r' : Nat → BitVec 8} {z z' : Int} (h : ChE n i k ls leaf bs q r z) (h' : ChE n i k ls leaf bs q' r' z') : q = q' ∧ r = r' ∧ z = z' := by
  by_cases a : isP n k ls = true ∧ 0 ≤ i ∧ i < n
  · by_cases b : Jn k i.toNat bs
    · obtain ⟨rfl, rfl, rfl⟩ := h.ok a b
      obtain ⟨rfl, rfl, rfl⟩ := h'.ok a b
      exact ⟨rfl, rfl, rfl⟩
    · obtain ⟨rfl, rfl, rfl⟩ := h.ill a b
      obtain ⟨rfl, rfl, rfl⟩ := h'.ill a b
      exact ⟨rfl, rfl, rfl⟩
  · obtain ⟨rfl, rfl, rfl⟩ := h.no a
    obtain ⟨rfl, rfl, rfl⟩ := h'.no a
    exact ⟨rfl, rfl, rfl⟩
theorem parts_nil (us : Nat → Value) (ls : Nat → Nat) (bs : Nat → Nat → BitVec 8) (w : World) : Parts (.slice none 0 0) 0 us ls bs w := ⟨.inl ⟨rfl, rfl⟩, fun i hi => absurd hi (by omega)⟩
theorem parts_ch {base : Nat} {cv : Value} {k : Nat} {nb nc : Nat → Nat} {ct : Nat → Nat → BitVec 8} {w : World} (h0 : 0 < k) (h : OwnB base 23 cv k (chV nb nc) w) (hn : ∀ i, i < k → 512 ≤ nc i ∧ RowAt (nb i) 512 (yv (ct i)) w) : Parts cv k (chV nb nc) (fun _ => 512) ct w := by
  obtain ⟨vb, vc, rfl, _, h3, _, hR⟩ := h.lies h0
  exact ⟨.inr ⟨_, vc, rfl, by omega, hR.lie _ (Nat.le_refl _)⟩, fun i hi => .inr ⟨_, nc i, rfl, (hn i hi).1, (hn i hi).2.lie 512 (Nat.le_refl _)⟩⟩
theorem change_any (n i : Int) (k : Nat) (leaf : Nat → BitVec 8) (pv : Value) (us : Nat → Value) (ls : Nat → Nat) (bs : Nat → Nat → BitVec 8) (w : World) (hP : WA pv k us ls bs w) (hC : TabC w) :
    Calls Tryd.prog 23 #[.int .i64 n, .int .i64 i, .agg (row 32 (yv leaf)).toArray, pv] w fun e w' => ∃ cv q r z, e = .returned (.tuple #[cv, .agg (row 32 (yv r)).toArray, .int .i64 z]) ∧ ChE n i k ls leaf bs q r z ∧ (∃ us', Parts cv q us' (fun _ => 512) (cF leaf i.toNat bs) w') ∧ Ext w w' := by
  by_cases a : isP n k ls = true ∧ 0 ≤ i ∧ i < n
  · obtain ⟨hp, h0, hi⟩ := a
    obtain ⟨m, rfl, h1, h2, h3, h4⟩ := isP_spec hp
    obtain ⟨x, rfl⟩ : ∃ x : Nat, i = (x : Int) := ⟨i.toNat, by omega⟩
    have hk := lvN_pos m
    rw [← h3] at hk
    rw [Int.toNat_natCast]
    refine (change_go m x k h1 h2 (by omega) leaf pv us ls bs w (hP.parts h4) hC h3 h4).mono fun e w' h => ?_
    rcases h with ⟨hj, cv, nb, nc, he, hO, hn, hE⟩ | ⟨hj, he, hE⟩
    · rw [gL_jn] at hj
      refine ⟨cv, k, _, 0, he, ⟨fun h => absurd ⟨hp, h0, hi⟩ h, fun _ h => absurd (by rw [Int.toNat_natCast]; exact hj) h, fun _ _ => ⟨rfl, by rw [Int.toNat_natCast, Int.toNat_natCast]; rfl, rfl⟩⟩, ⟨_, parts_ch hk.1 hO fun i hi => ⟨(hn i hi).2.1, ?_⟩⟩, hE⟩
      rw [← ctL_range leaf x bs k i hi]
      exact (hn i hi).2.2
    · rw [gL_jn] at hj
      exact ⟨_, 0, _, 160, he, ⟨fun h => absurd ⟨hp, h0, hi⟩ h, fun _ _ => ⟨rfl, rfl, rfl⟩, fun _ h => absurd (by rw [Int.toNat_natCast] at h; exact h) hj⟩, ⟨fun _ => undef, parts_nil _ _ _ _⟩, hE⟩
  · have key : Calls Tryd.prog 23 #[.int .i64 n, .int .i64 i, .agg (row 32 (yv leaf)).toArray, pv] w fun e w' => e = .returned (.tuple #[.slice none 0 0, .agg (row 32 (yv fun _ => 0#8)).toArray, .int .i64 1]) ∧ Ext w w' := by
      cases hp : isP n k ls with
      | false => exact change_path n i k leaf pv us ls w hP.w hP.most hp
      | true => exact change_place n i k leaf pv us ls w hP.w hP.most hp (by
          by_cases hh : 0 ≤ i ∧ i < n
          · exact absurd ⟨hp, hh⟩ a
          · omega)
    exact key.mono fun e w' h => ⟨_, 0, _, 1, h.1, ⟨fun _ => ⟨rfl, rfl, rfl⟩, fun h => absurd h a, fun h => absurd h a⟩, ⟨fun _ => undef, parts_nil _ _ _ _⟩, h.2⟩
theorem rchange_any (n i : Int) (k : Nat) (leaf : Nat → BitVec 8) (pv : Value) (us : Nat → Value) (ls : Nat → Nat) (bs : Nat → Nat → BitVec 8) (w : World) (hP : WA pv k us ls bs w) :
    Calls Tryd.prog 24 #[.int .i64 n, .int .i64 i, .agg (row 32 (yv leaf)).toArray, pv] w fun e w' => ∃ cv q r z, e = .returned (.tuple #[cv, .agg (row 32 (yv r)).toArray, .int .i64 z]) ∧ ChE n i k ls leaf bs q r z ∧ (∃ us', Parts cv q us' (fun _ => 512) (cF leaf i.toNat bs) w') ∧ Ext w w' := by
  by_cases a : isP n k ls = true ∧ 0 ≤ i ∧ i < n
  · obtain ⟨hp, h0, hi⟩ := a
    obtain ⟨m, rfl, h1, h2, h3, h4⟩ := isP_spec hp
    obtain ⟨x, rfl⟩ : ∃ x : Nat, i = (x : Int) := ⟨i.toNat, by omega⟩
    have hk := lvN_pos m
    rw [← h3] at hk
    rw [Int.toNat_natCast]
    refine (rchange_go m x k h1 h2 h3 (by omega) leaf pv us ls bs w (hP.parts h4) h4).mono fun e w' h => ?_
    rcases h with ⟨hj, cv, nb, nc, he, hO, hn, hE⟩ | ⟨hj, he, hE⟩
    · exact ⟨cv, k, _, 0, he, ⟨fun h => absurd ⟨hp, h0, hi⟩ h, fun _ h => absurd (by rw [Int.toNat_natCast]; exact hj) h, fun _ _ => ⟨rfl, by rw [Int.toNat_natCast, Int.toNat_natCast], rfl⟩⟩, ⟨_, parts_ch hk.1 hO hn⟩, hE⟩
    · exact ⟨_, 0, _, 160, he, ⟨fun h => absurd ⟨hp, h0, hi⟩ h, fun _ _ => ⟨rfl, rfl, rfl⟩, fun _ h => absurd (by rw [Int.toNat_natCast] at h; exact h) hj⟩, ⟨fun _ => undef, parts_nil _ _ _ _⟩, hE⟩
  · have key : Calls Tryd.prog 24 #[.int .i64 n, .int .i64 i, .agg (row 32 (yv leaf)).toArray, pv] w fun e w' => e = .returned (.tuple #[.slice none 0 0, .agg (row 32 (yv fun _ => 0#8)).toArray, .int .i64 1]) ∧ Ext w w' := by
      cases hp : isP n k ls with
      | false => exact rchange_no n i k leaf pv us ls w hP.w hP.most hp
      | true => exact rchange_place n i k leaf pv us ls w hP.w hP.most hp (by
          by_cases hh : 0 ≤ i ∧ i < n
          · exact absurd ⟨hp, hh⟩ a
          · omega)
    exact key.mono fun e w' h => ⟨_, 0, _, 1, h.1, ⟨fun _ => ⟨rfl, rfl, rfl⟩, fun h => absurd h a, fun h => absurd h a⟩, ⟨fun _ => undef, parts_nil _ _ _ _⟩, h.2⟩
theorem ckE_one {n i : Int} {k : Nat} {ls : Nat → Nat} {leaf : Nat → BitVec 8} {bs : Nat → Nat → BitVec 8} {root : Nat → BitVec 8} {z z' : Int} (h : ckE n i k ls leaf bs root z) (h' : ckE n i k ls leaf bs root z') : z = z' := by
  rcases h with ⟨rfl, a⟩ | ⟨a, ⟨rfl, b⟩ | ⟨rfl, b⟩⟩ <;> rcases h' with ⟨rfl, a'⟩ | ⟨a', ⟨rfl, b'⟩ | ⟨rfl, b'⟩⟩ <;> first | rfl | exact absurd a' a | exact absurd a a' | exact absurd b b' | exact absurd b' b
theorem rcheck_all (n i : Int) (k : Nat) (leaf root : Nat → BitVec 8) (pv : Value) (us : Nat → Value) (ls : Nat → Nat) (bs : Nat → Nat → BitVec 8) (w : World) (hP : WA pv k us ls bs w) :
    Calls Tryd.prog 25 #[.int .i64 n, .int .i64 i, .agg (row 32 (yv leaf)).toArray, pv, .agg (row 32 (yv root)).toArray] w fun e w' => ∃ z, e = .returned (.int .i64 z) ∧ Ext w w' ∧ ckE n i k ls leaf bs root z := by
  cases hp : isP n k ls with
  | false => exact (rcheck_no n i k leaf root pv us ls w hP.w hP.most hp).mono fun e w' h => ⟨1, h.1, h.2, .inl ⟨rfl, fun h => by rw [hp] at h; cases h.1⟩⟩
  | true =>
    obtain ⟨m, rfl, h1, h2, h3, h4⟩ := isP_spec hp
    by_cases hi : i < 0 ∨ (m : Int) ≤ i
    · exact (rcheck_place m k i h1 h2 h3 leaf root pv us ls bs w (hP.parts h4) h4 hi).mono fun e w' h => ⟨1, h.1, h.2, .inl ⟨rfl, fun h => by omega⟩⟩
    · obtain ⟨x, rfl⟩ : ∃ x : Nat, i = (x : Int) := ⟨i.toNat, by omega⟩
      have hx : x < m := by omega
      have hk := lvN_pos m
      rw [← h3] at hk
      have hgood : (∃ m' x', Good (m : Int) (x : Int) k ls leaf bs root m' x') ↔ (eqN 32 (fun j => bs 0 (32 * plc x 0 + j)) leaf = true ∧ Jn k x bs ∧ eqN 32 (rootF m (nodeF (BitVec.ofNat 8 (k - 1)) (bs (k - 1)) 512)) root = true) := by
        obtain ⟨q, rfl⟩ : ∃ q, k = q + 1 := ⟨k - 1, by omega⟩
        rw [Nat.add_sub_cancel, eqN_iff, eqN_iff]
        constructor
        · rintro ⟨m', x', g⟩
          obtain rfl : m = m' := Int.ofNat.inj g.n
          obtain rfl : x = x' := Int.ofNat.inj g.i
          have hu := (chL_jn leaf x bs q).1 g.up
          have ht := g.top
          rw [chL_fst] at ht
          exact ⟨hu.1, hu.2, ht⟩
        · rintro ⟨a, b, c⟩
          exact ⟨m, x, rfl, rfl, h1, h2, hx, h3, h4, (chL_jn leaf x bs q).2 ⟨a, b⟩, by rw [chL_fst]; exact c⟩
      refine (rcheck_go m x k h1 h2 h3 hx leaf root pv us ls bs w (hP.parts h4) h4).mono fun e w' h => ?_
      obtain ⟨⟨a, he⟩ | ⟨a, he⟩, hE⟩ := h
      · exact ⟨0, he, hE, .inr ⟨⟨hp, by omega, by omega⟩, .inl ⟨rfl, hgood.2 a⟩⟩⟩
      · exact ⟨160, he, hE, .inr ⟨⟨hp, by omega, by omega⟩, .inr ⟨rfl, fun h => a (hgood.1 h)⟩⟩⟩
end Go.Proofs.YtapmheocllicnaaDoor
