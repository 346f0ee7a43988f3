/-
  Whether a leaf is right by its path and a root.
-/
import Derived.Test.YtapmheocllicnaaDoorPlc
import Derived.Test.YtapmheocllicnaaDoorRh
namespace Go.Proofs.YtapmheocllicnaaDoor
open Go.RowKit Go.BigFrame Go.Shelf
attribute [local go_sem] Oper.semAt_some
/-- what is told of a path on the way up: the digest that is looked for next, and whether all stood so far -/
def chS (x : Nat) (bs : Nat → Nat → BitVec 8) (s : (Nat → BitVec 8) × Prop) (j : Nat) : (Nat → BitVec 8) × Prop := (nodeF (BitVec.ofNat 8 j) (bs j) 512, s.2 ∧ ∀ t, t < 32 → bs j (32 * plc x j + t) = s.1 t)
def chL (leaf : Nat → BitVec 8) (x : Nat) (bs : Nat → Nat → BitVec 8) (l : List Nat) : (Nat → BitVec 8) × Prop := l.foldl (chS x bs) (leaf, True)
theorem chL_snoc {k : Nat} (leaf : Nat → BitVec 8) (x : Nat) (bs : Nat → Nat → BitVec 8) (pre : List (Lev k)) (j : Lev k) : chL leaf x bs (upL (pre ++ [j])) = chS x bs (chL leaf x bs (upL pre)) j.1 := by
  unfold chL upL
  rw [List.map_append, List.foldl_append]
  rfl
theorem chS_mono (x : Nat) (bs : Nat → Nat → BitVec 8) : ∀ (l : List Nat) (s : (Nat → BitVec 8) × Prop), (l.foldl (chS x bs) s).2 → s.2
  | [], _, h => h
  | _ :: l, _, h => (chS_mono x bs l _ h).1
theorem chL_prefix {leaf : Nat → BitVec 8} {x : Nat} {bs : Nat → Nat → BitVec 8} {l l' : List Nat} (h : l <+: l') (hl : ¬ (chL leaf x bs l).2) : ¬ (chL leaf x bs l').2 := by
  obtain ⟨r, rfl⟩ := h
  unfold chL at *
  rw [List.foldl_append]
  exact fun h => hl (chS_mono x bs r _ h)
/-- how a Check stands on its way -/
structure CI (w : World) (cb : Nat) (pv : Value) (root ch : Nat → BitVec 8) (W : World) : Prop where
  lt : w.heap.size + 4 ≤ cb
  ext : Ext w W
  path : RowAt (w.heap.size + 1) 1 (fun _ => pv) W
  root : RowAt (w.heap.size + 2) 32 (yv root) W
  res : RowAt (w.heap.size + 3) 1 (fun _ => .int .i64 0) W
  child : RowAt cb 32 (yv ch) W
theorem CI.carry {w : World} {cb : Nat} {pv : Value} {root ch : Nat → BitVec 8} {W Y : World} (h : CI w cb pv root ch W) (k : Ext W Y) : CI w cb pv root ch Y :=
  ⟨h.lt, Ext.trans h.ext k, h.path.carry k, h.root.carry k, h.res.carry k, h.child.carry k⟩
theorem CI.setChild {w : World} {cb : Nat} {pv : Value} {root ch : Nat → BitVec 8} {W : World} (h : CI w cb pv root ch W) (ch' : Nat → BitVec 8) : CI w cb pv root ch' (W.setCells cb 0 (row 32 (yv ch'))) :=
  ⟨h.lt, below_setCells _ (by have := h.lt; omega) _ _ _ h.ext, h.path.cellsOther (by have := h.lt; omega) _ _, h.root.cellsOther (by have := h.lt; omega) _ _, h.res.cellsOther (by have := h.lt; omega) _ _, h.child.cells⟩
theorem CI.own {w : World} {cb : Nat} {pv : Value} {root ch : Nat → BitVec 8} {W W' : World} {r : Option Nat} (h : CI w cb pv root ch W) (hg : W.grownBy W' r) (hr : ∀ k, r = some k → w.heap.size ≤ k ∧ ∃ o : Obj, W.heap[k]? = some o ∧ o.isCells = false) : CI w cb pv root ch W' :=
  ⟨h.lt, Below.grown h.ext hg (Below.size h.ext) fun k e => (hr k e).1, h.path.own hg fun k e => (hr k e).2, h.root.own hg fun k e => (hr k e).2, h.res.own hg fun k e => (hr k e).2, h.child.own hg fun k e => (hr k e).2⟩
theorem chk_mem (w : World) (leaf root : Nat → BitVec 8) (pv : Value) : RowAt w.heap.size 32 (yv leaf) ((((w.alloc (.cells (row 32 (yv leaf)).toArray 25)).alloc (.cells #[pv] 33)).alloc (.cells (row 32 (yv root)).toArray 25)).alloc (.cells #[.int .i64 0] 26)) ∧ RowAt (w.heap.size + 1) 1 (fun _ => pv) ((((w.alloc (.cells (row 32 (yv leaf)).toArray 25)).alloc (.cells #[pv] 33)).alloc (.cells (row 32 (yv root)).toArray 25)).alloc (.cells #[.int .i64 0] 26)) ∧ RowAt (w.heap.size + 2) 32 (yv root) ((((w.alloc (.cells (row 32 (yv leaf)).toArray 25)).alloc (.cells #[pv] 33)).alloc (.cells (row 32 (yv root)).toArray 25)).alloc (.cells #[.int .i64 0] 26)) ∧ RowAt (w.heap.size + 3) 1 (fun _ => .int .i64 0) ((((w.alloc (.cells (row 32 (yv leaf)).toArray 25)).alloc (.cells #[pv] 33)).alloc (.cells (row 32 (yv root)).toArray 25)).alloc (.cells #[.int .i64 0] 26)) ∧ Ext w ((((w.alloc (.cells (row 32 (yv leaf)).toArray 25)).alloc (.cells #[pv] 33)).alloc (.cells (row 32 (yv root)).toArray 25)).alloc (.cells #[.int .i64 0] 26)) ∧ ((((w.alloc (.cells (row 32 (yv leaf)).toArray 25)).alloc (.cells #[pv] 33)).alloc (.cells (row 32 (yv root)).toArray 25)).alloc (.cells #[.int .i64 0] 26)).heap.size = w.heap.size + 4 := by
  have h1 := RowAt.new w 32 (yv leaf) 25
  have h2 := RowAt.newOf (w.alloc (.cells (row 32 (yv leaf)).toArray 25)) 1 (fun _ => pv) 33 #[pv] (fun j hj => by
    have : j = 0 := by omega
    subst this
    rfl)
  have h3 := RowAt.new ((w.alloc (.cells (row 32 (yv leaf)).toArray 25)).alloc (.cells #[pv] 33)) 32 (yv root) 25
  have h4 := RowAt.newOf (((w.alloc (.cells (row 32 (yv leaf)).toArray 25)).alloc (.cells #[pv] 33)).alloc (.cells (row 32 (yv root)).toArray 25)) 1 (fun _ => .int .i64 0) 26 #[.int .i64 0] (fun j hj => by
    have : j = 0 := by omega
    subst this
    rfl)
  simp only [World.size_alloc, Nat.add_assoc, Nat.reduceAdd] at h1 h2 h3 h4
  refine ⟨((h1.alloc _).alloc _).alloc _, (h2.alloc _).alloc _, h3.alloc _, h4, ?_, by simp⟩
  exact ((((Below.refl _ w).alloc (Nat.le_refl _) _).alloc (by simp) _).alloc (by simp; omega) _).alloc (by simp; omega) _
theorem alloc25 (W : World) : RowAt W.heap.size 32 (yv fun _ => 0#8) (W.alloc (.cells (row 32 (yv fun _ => 0#8)).toArray 25)) := RowAt.new W 32 _ 25
set_option maxRecDepth 20000 in
set_option maxHeartbeats 2000000 in
theorem check_go (n x k : Nat) (hn1 : 1 ≤ n) (hn2 : n ≤ 4096) (hx : x < n) (leaf root : Nat → BitVec 8) (pv : Value) (us : Nat → Value) (ls : Nat → Nat) (bs : Nat → Nat → BitVec 8) (w : World) (hP : Parts pv k us ls bs w) (hC : TabC w) (hk : k = lvN n) (hls : ∀ i, i < k → ls i = 512) :
    Calls Tryd.prog 21 #[.int .i64 (n : Int), .int .i64 (x : Int), .agg (row 32 (yv leaf)).toArray, pv, .agg (row 32 (yv root)).toArray] w fun e w' => ∃ z : Int, e = .returned (.int .i64 z) ∧ Ext w w' ∧
      (z = 0 ∧ ((chL leaf x bs (List.range k)).2 ∧ ∀ t, t < 32 → rootF n (chL leaf x bs (List.range k)).1 t = root t) ∨ z = 160 ∧ ¬ ((chL leaf x bs (List.range k)).2 ∧ ∀ t, t < 32 → rootF n (chL leaf x bs (List.range k)).1 t = root t)) := by
  obtain ⟨ov, cap, rfl⟩ := hP.form
  have hk3 := lvN_pos n
  rw [← hk] at hk3
  obtain ⟨pa, rfl⟩ : ∃ pa, ov = some pa := by
    rcases hP.1 with ⟨h, h0⟩ | ⟨a, cap', h, _, h3⟩
    · omega
    · injection h with e1 e2 e3
      exact ⟨a, e1⟩
  obtain ⟨M1, M2, M3, M4, M5, M6⟩ := chk_mem w leaf root (.slice (some pa) k cap)
  have kp := path_any (n : Int) (.slice (some pa) k cap) k us ls bs _ (hP.ext M5) (by omega)
  rw [show isP (n : Int) k ls = true from decide_eq_true ⟨by omega, by omega, by rw [Int.toNat_natCast]; exact hk, hls⟩] at kp
  replace kp := hideit kp
  have e1 := M1.1
  have e2 := M2.1 0 (by decide)
  replace M1 := hideit M1
  replace M2 := hideit M2
  replace M3 := hideit M3
  replace M4 := hideit M4
  replace M5 := hideit M5
  replace hP := hideit hP
  replace hC := hideit hC
  replace hls := hideit hls
  have i0 : ¬ (x : Int) < 0 := by omega
  have i1 : ¬ (n : Int) ≤ (x : Int) := by omega
  replace hk := hideit hk
  refine (callsIn_wide (n := 4)).1 (callsIn_of_wp_marks Tryd.func21 rfl trivial ?_ rfl)
  refine wpIn_wide.2 ?_
  simp only [Tryd.ntmps21, List.size_toArray, List.length_cons, List.length_nil, Nat.reduceAdd, Nat.reduceSub, Array.replicate_succ, Array.replicate_zero, List.push_toArray, List.append_toArray, List.nil_append, List.cons_append]
  go_upto_region 1 with (fail)
  generalize (((w.alloc (.cells (row 32 (yv leaf)).toArray 25)).alloc (.cells #[.slice (some pa) k cap] 33)).alloc (.cells (row 32 (yv root)).toArray 25)).alloc (.cells #[.int .i64 0] 26) = w4 at *
  go_upto_region 3 with (go_at_call 33; refine kp.out.mono ?_; rintro e w5 ⟨rfl, hX5⟩; have N1 := hideit (M1.out.carry hX5); have N2 := hideit (M2.out.carry hX5); have N3 := hideit (M3.out.carry hX5); have N4 := hideit (M4.out.carry hX5); have N5 := hideit (Ext.trans M5.out hX5); have N6 := hideit (Below.size hX5); clear hX5 M1 M2 M3 M4 M5 kp e1 e2)
  refine wp_region_lit ?_
  refine wpList_run rfl (.agg (row 32 (yv leaf)).toArray) (exec_loadR 25 (.tmp 7) rfl w.heap.size 0 32 _ rfl N1.out.range Tryd.underlying25 rfl info24) ?_
  simp only [Act.put, List.setIfInBounds_toArray, List.set_cons_zero, List.set_cons_succ]
  have hz := zero24
  have hE6 : Ext w5 (w5.alloc (.cells (row 32 (yv fun _ => 0#8)).toArray 25)) := (Below.refl _ _).alloc (Nat.le_refl _) _
  have C6 := RowAt.new w5 32 (yv fun _ => 0#8) 25
  have N7 : w.heap.size + 4 ≤ w5.heap.size := by have := N6.out; omega
  have HC0 : CI w w5.heap.size (.slice (some pa) k cap) root (fun _ => 0#8) (w5.alloc (.cells (row 32 (yv fun _ => 0#8)).toArray 25)) := ⟨N7, Ext.trans N5.out hE6, N2.out.carry hE6, N3.out.carry hE6, N4.out.carry hE6, C6⟩
  have HC := hideit (HC0.setChild leaf)
  refine wpList_to rfl (.pointer (some ⟨w5.heap.size, 0, none⟩)) (w5.alloc (.cells (row 32 (yv fun _ => 0#8)).toArray 25)) (by simp [go_sem, hz]) ?_
  simp only [Act.put, List.setIfInBounds_toArray, List.set_cons_zero, List.set_cons_succ]
  refine wpList_store_mid rfl 25 (.tmp 11) (.tmp 27) rfl _ 0 (row 32 (yv leaf)).toArray rfl rfl (by rw [row_size]; exact C6.there) (by rw [row_size]; exact info24) (row_one fun _ _ => rfl) ?_
  rw [show (row 32 (yv leaf)).toArray.toList = row 32 (yv leaf) from rfl]
  generalize (w5.alloc (.cells (row 32 (yv fun _ => 0#8)).toArray 25)).setCells w5.heap.size 0 (row 32 (yv leaf)) = w6 at *
  generalize w5.heap.size = cb at *
  clear N1 N2 N3 N4 N5 N6 hE6 C6 HC0
  simp only [Act.put]
  go_upto_region 4 with (fail)
  have e2 := HC.out.path.1 0 (by decide)
  refine wp_region_lit ?_
  refine wpList_run rfl (.int .i64 (x : Int)) (by simp [go_sem]) ?_
  simp only [Act.put, List.setIfInBounds_toArray, List.set_cons_zero, List.set_cons_succ]
  refine wpList_run rfl (.slice (some pa) k cap) (by simp [go_sem, e2]) ?_
  simp only [Act.put, List.setIfInBounds_toArray, List.set_cons_zero, List.set_cons_succ]
  refine wpList_run rfl (.int .i64 (k : Int)) (by simp [go_sem]) ?_
  simp only [Act.put, List.setIfInBounds_toArray, List.set_cons_zero, List.set_cons_succ]
  refine wpList_call rfl (by simp [go_sem]) ((places_any (x : Int) (k : Int) w6).mono ?_)
  rintro e w7 ⟨rfl, h7⟩
  refine ⟨_, rfl, ?_⟩
  simp only [Act.put, List.setIfInBounds_toArray, List.set_cons_zero, List.set_cons_succ]
  have hE7 : Ext w6 w7 := by rw [h7]; exact ((Below.refl _ _).alloc (Nat.le_refl _) _).alloc (by simp) _
  have b0 : w7.cell? ⟨w6.heap.size, 0, none⟩ = some (.int .i64 (x : Int)) := by rw [h7]; simp
  have b1 : w7.cell? ⟨w6.heap.size + 1, 0, none⟩ = some (.int .i64 (k : Int)) := by rw [h7]; simp
  have b2 : w7.heap.size = w6.heap.size + 2 := by rw [h7]; simp
  have HC7 := hideit (HC.out.carry hE7)
  have hw7 : w.heap.size ≤ w7.heap.size := Below.size HC7.out.ext
  clear h7 hE7 HC e2
  go_wp2
  generalize Value.bool (decide ((x : Int) < 0) || decide (n ≤ x)) = q3
  generalize Value.bool (decide ((x : Int) < 0)) = q1
  generalize Value.bool (decide (n ≤ x)) = q2
  refine (wpIn_wide (n := 4)).1 ?_
  refine wpIn_rangeFunc_ownG (F := Fence.wide) (n := 4) rfl (by decide) (gf := 45) (lb := #[.pointer (some ⟨w6.heap.size, 0, none⟩), .pointer (some ⟨w6.heap.size + 1, 0, none⟩)]) rfl trivial (enters_of Tryd.func45 (by kernel_rfl) rfl)
    (places_stops 3 (by decide) x k w6.heap.size (w6.heap.size + 1) w7 b0 b1 (by omega) (by omega) (by omega) (by omega)) walksK_t walksK_b (Below.refl _ _) (fun _ => rfl)
    (fun pre W => (chL leaf x bs (upL pre)).2 ∧ CI w cb (.slice (some pa) k cap) root (chL leaf x bs (upL pre)).1 W)
    (fun c pre W => c = .ret ∧ ¬ (chL leaf x bs (upL pre)).2 ∧ Ext w W ∧ RowAt (w.heap.size + 3) 1 (fun _ => .int .i64 160) W)
    (fun s A B row hs hg hr => ⟨hs.1, hs.2.own hg fun k e => ⟨by have := (hr k e).1; omega, (hr k e).2⟩⟩)
    (fun c s A B row hs hg hr => ⟨hs.1, hs.2.1, Below.grown hs.2.2.1 hg (Below.size hs.2.2.1) (fun k e => by have := (hr k e).1; omega), hs.2.2.2.own hg fun k e => (hr k e).2⟩)
    ⟨trivial, HC7.out⟩
    (fun j => { tmps := #[.int .i64 (n : Int), .int .i64 (x : Int), .agg (row 32 (yv leaf)).toArray, .slice (some pa) k cap, .agg (row 32 (yv root)).toArray, undef, undef, .pointer (some ⟨w.heap.size, 0, none⟩), .pointer (some ⟨w.heap.size + 1, 0, none⟩), .pointer (some ⟨w.heap.size + 1 + 1, 0, none⟩), .pointer (some ⟨w.heap.size + 1 + 1 + 1, 0, none⟩), .pointer (some ⟨cb, 0, none⟩), .int .i64 (j.1 : Int), .int .i64 (plc x j.1 : Int), .int .i64 (n : Int), .slice (some pa) k cap, .bool true, .bool false, .bool false, .int .i64 (x : Int), q1, q1, q1, .int .i64 (x : Int), .int .i64 (n : Int), q2, q3, .agg (row 32 (yv leaf)).toArray, .int .i64 (x : Int), .slice (some pa) k cap, .int .i64 (k : Int), .func (.func 45) #[] #[.pointer (some ⟨w6.heap.size, 0, none⟩), .pointer (some ⟨w6.heap.size + 1, 0, none⟩)], .int .i64 (j.1 : Int), .int .i64 (plc x j.1 : Int), undef, undef, undef, undef, undef, undef, undef, undef, undef, undef, undef, undef, undef, undef, undef, undef, undef, undef, undef], defers := [] }) ?assign ?body ?done ?stop
  case assign =>
    intro l j W K hK
    gi_wp2
    exact hK
  case body =>
    rintro l pre j W ⟨hok, hCI⟩ -
    obtain ⟨ch, hch⟩ : ∃ ch, ch = (chL leaf x bs (upL pre)).1 := ⟨_, rfl⟩
    rw [← hch] at hCI
    replace hch := hideit hch
    replace hok := hideit hok
    obtain ⟨aj, cj, huj, hcj, hlj⟩ : ∃ aj cj, us j.1 = .slice (some aj) 512 cj ∧ 512 ≤ cj ∧ LieAt aj 512 (yv (bs j.1)) w := by
      have h1 := hP.out.2 j.1 j.2
      rw [hls.out j.1 j.2] at h1
      rcases h1 with ⟨_, h⟩ | ⟨a, c, h, hc, hl⟩
      · cases h
      · exact ⟨a, c, h, hc, hl⟩
    have hcell : LieAt pa k us w := by
      rcases hP.out.1 with ⟨h, h0⟩ | ⟨a, cap', h, _, h3⟩
      · cases h
      · injection h with e1 e2 e3
        cases e1
        exact h3
    replace hcell := hideit hcell
    replace huj := hideit huj
    replace hlj := hideit hlj
    replace hCI := hideit hCI
    clear HC7 b0 b1
    have j0 : (0 : Int) ≤ (j.1 : Int) := by omega
    have j1 : (j.1 : Int) < (k : Int) := by have := j.2; omega
    have jp : plc x j.1 < 16 := Nat.mod_lt _ (by decide)
    obtain ⟨jj, hjj⟩ := j
    simp only at j0 j1 jp huj hlj
    have hCD := hideit (hCI.out.carry (Ext.refl W).draw)
    refine wpIn_block ?_
    refine wpIn_seq ?_
    refine wpIn_seq ?_
    refine round_lad (by kernel_rfl) (fun h => by obtain ⟨_, _, h⟩ := h; exact h) (by kernel_rfl) ?_
    refine wpAny_lad (fun X => Ext W.drew X) [(false, 0), (false, 1), (false, 2), (false, 3), (false, 4), (false, 6), (true, 5), (false, 7)] (by kernel_rfl) (by decide +kernel) (by decide +kernel) (by decide +kernel) (by decide +kernel) (Ext.refl _) ?_
    refine wpX_f _ (.slice (some pa) k cap) rfl rfl (fun X hX => by have e := (hCD.out.carry hX).path.1 0 (by decide); simp [go_sem, e]) ?_
    simp only [List.getElem_toArray, List.getElem_cons_zero, Act.put, List.setIfInBounds_toArray, List.set_cons_zero, List.set_cons_succ]
    refine wpX_f _ (.int .i64 (jj : Int)) rfl rfl (fun X _ => by simp [go_sem]) ?_
    simp only [List.getElem_toArray, List.getElem_cons_zero, List.getElem_cons_succ, Act.put, List.setIfInBounds_toArray, List.set_cons_zero, List.set_cons_succ]
    refine wpX_f _ (.pointer (some (pa.add jj))) rfl rfl (fun X _ => by simp [go_sem, j1]) ?_
    simp only [List.getElem_toArray, List.getElem_cons_zero, List.getElem_cons_succ, Act.put, List.setIfInBounds_toArray, List.set_cons_zero, List.set_cons_succ]
    refine wpX_f _ (.slice (some aj) 512 cj) rfl rfl (fun X hX => by have e := (hcell.out.carry (Ext.trans hCD.out.ext hX)).1 jj hjj; rw [huj.out] at e; simp [go_sem, e]) ?_
    simp only [List.getElem_toArray, List.getElem_cons_zero, List.getElem_cons_succ, Act.put, List.setIfInBounds_toArray, List.set_cons_zero, List.set_cons_succ]
    refine wpX_f _ (.int .i64 (plc x jj : Int)) rfl rfl (fun X _ => by simp [go_sem]) ?_
    simp only [List.getElem_toArray, List.getElem_cons_zero, List.getElem_cons_succ, Act.put, List.setIfInBounds_toArray, List.set_cons_zero, List.set_cons_succ]
    refine wpX_f _ (.agg (row 32 (yv ch)).toArray) rfl rfl (fun X hX => exec_loadR 25 (.tmp 11) rfl cb 0 32 _ rfl (hCD.out.carry hX).child.range Tryd.underlying25 rfl info24) ?_
    simp only [List.getElem_toArray, List.getElem_cons_zero, List.getElem_cons_succ, Act.put, List.setIfInBounds_toArray, List.set_cons_zero, List.set_cons_succ]
    refine wpX_call _ rfl rfl (by simp [go_sem]) ((child_any aj cj (plc x jj) (bs jj) W.drew jp hcj (hlj.out.carry hCD.out.ext)).mono ?_)
    rintro e w9 ⟨rfl, hX9⟩
    refine ⟨_, rfl, fun X => Ext w9 X, fun X hX => Ext.trans hX9 hX, Ext.refl _, ?_⟩
    simp only [List.getElem_toArray, List.getElem_cons_zero, List.getElem_cons_succ, Act.put, List.setIfInBounds_toArray, List.set_cons_zero, List.set_cons_succ]
    refine wpX_f _ (.bool (!(eqN 32 (fun t => bs jj (32 * plc x jj + t)) ch))) rfl rfl (fun X hX => exec_cmp .neq 25 25 (.tmp 39) (.tmp 40) rfl _ _ rfl rfl (by kernel_rfl) _ (neq25 _ _ X)) ?_
    simp only [List.getElem_toArray, List.getElem_cons_zero, List.getElem_cons_succ, Act.put, List.setIfInBounds_toArray, List.set_cons_zero, List.set_cons_succ]
    refine wpX_nil ?_
    have hC9 := hideit (hCD.out.carry hX9)
    have hKO : KeepsOthers W w9 := (KeepsOthers.drew W).trans (KeepsOthers.of_ext hX9)
    clear hCI hCD hX9
    change Code.wpIn (Fence.wide.inRound l) _ _ _ _ _ _
    cases hb : eqN 32 (fun t => bs jj (32 * plc x jj + t)) ch with
    | false =>
      refine wpIn_cond_true rfl ?_
      refine wpIn_seq ?_
      refine round_lit (by kernel_rfl) (fun h => by obtain ⟨_, _, h⟩ := h; exact h) ?_
      have e1 := hC9.out.res.1 0 (by decide)
      have e2 := hC9.out.res.2.1 0 (by decide)
      refine wpList_st rfl (w9.setCell ⟨w.heap.size + 3, 0, none⟩ (.int .i64 160)) (by simp [go_sem, e1, e2]) ?_
      refine wpList_nil ?_
      change Code.wpIn (Fence.wide.inRound l) _ _ _ _ _ _
      refine wpIn_ret ?_
      refine ⟨(hKO.trans (KeepsOthers.setCell _ _ _)).from _, rfl, ?_, ?_, ?_⟩
      · rw [chL_snoc]
        intro h
        have : eqN 32 (fun t => bs jj (32 * plc x jj + t)) ch = true := eqN_iff.2 (by rw [hch.out]; exact h.2)
        rw [hb] at this
        cases this
      · exact Below.setCell (p := ⟨w.heap.size + 3, 0, none⟩) hC9.out.ext (by show w.heap.size ≤ w.heap.size + 3; omega) _
      · exact (hC9.out.res.set 0 (.int .i64 160)).congr fun t ht => by rw [if_pos (by omega)]
    | true =>
      refine wpIn_cond_false rfl ?_
      refine wpIn_skip ?_
      change Code.wpIn (Fence.wide.inRound l) _ _ _ _ _ _
      refine round_lit (by kernel_rfl) (fun h => by obtain ⟨_, _, h⟩ := h; exact h) ?_
      have e1 := hC9.out.path.1 0 (by decide)
      have e2 := (hcell.out.carry hC9.out.ext).1 jj hjj
      rw [huj.out] at e2
      refine wpList_run rfl (.int .i64 (jj : Int)) (by simp [go_sem]) ?_
      simp only [Act.put, List.setIfInBounds_toArray, List.set_cons_zero, List.set_cons_succ]
      refine wpList_run rfl (.slice (some pa) k cap) (by simp [go_sem, e1]) ?_
      simp only [Act.put, List.setIfInBounds_toArray, List.set_cons_zero, List.set_cons_succ]
      refine wpList_run rfl (.int .i64 (jj : Int)) (by simp [go_sem]) ?_
      simp only [Act.put, List.setIfInBounds_toArray, List.set_cons_zero, List.set_cons_succ]
      refine wpList_run rfl (.pointer (some (pa.add jj))) (by simp [go_sem, j1]) ?_
      simp only [Act.put, List.setIfInBounds_toArray, List.set_cons_zero, List.set_cons_succ]
      refine wpList_run rfl (.slice (some aj) 512 cj) (by simp [go_sem, e2]) ?_
      simp only [Act.put, List.setIfInBounds_toArray, List.set_cons_zero, List.set_cons_succ]
      have kn := node_any (jj : Int) (BitVec.ofNat 8 jj) (by rw [BitVec.toNat_ofNat]; omega) (.slice (some aj) 512 cj) 512 (bs jj) w9 (.inr ⟨aj, cj, rfl, hcj, hlj.out.carry hC9.out.ext⟩) (hC.out.ext hC9.out.ext) (by decide)
      refine wpList_call rfl (by simp [go_sem]) (kn.mono ?_)
      rintro e w10 ⟨rfl, hX10⟩
      refine ⟨_, rfl, ?_⟩
      simp only [Act.put, List.setIfInBounds_toArray, List.set_cons_zero, List.set_cons_succ]
      have hC10 := hideit (hC9.out.carry hX10)
      have hKO2 := hKO.trans (KeepsOthers.of_ext hX10)
      refine wpList_store_mid rfl 25 (.tmp 11) (.tmp 47) rfl _ 0 (row 32 (yv (nodeF (BitVec.ofNat 8 jj) (bs jj) 512))).toArray rfl rfl (by rw [row_size]; exact hC10.out.child.there) (by rw [row_size]; exact info24) (row_one fun _ _ => rfl) ?_
      refine wpList_nil ?_
      refine ⟨(KeepsOthers.setCells _ _ _ _ _ hKO2).from _, (KeepsOthers.setCells _ _ _ _ _ hKO2).walks, ?_, ?_⟩
      · rw [chL_snoc]
        exact ⟨hok.out, by rw [← hch.out]; exact eqN_iff.1 hb⟩
      · rw [chL_snoc]
        exact hC10.out.setChild _
  case done =>
    rename_i K hKK
    rintro D xs W hD hS ⟨hok, hCI⟩ hK
    rw [hS] at hok hCI
    obtain ⟨ch, hch⟩ : ∃ ch, ch = (chL leaf x bs (List.range k)).1 := ⟨_, rfl⟩
    rw [← hch] at hCI
    replace hch := hideit hch
    refine hKK _ _ ?_
    clear hKK
    replace hok := hideit hok
    replace hCI := hideit hCI
    replace hK := hideit hK
    have hCD := hideit (hCI.out.carry (Ext.refl W).draw)
    go_upto_region 10 with (fail)
    refine wp_region_lad (fun X => Ext W.drew X) [(false, 0), (false, 1), (false, 3), (true, 2), (false, 4)] (by kernel_rfl) (by kernel_rfl) (by decide +kernel) (by decide +kernel) (by decide +kernel) (by decide +kernel) (Ext.refl _) ?_
    refine wpX_f _ (.int .i64 (n : Int)) rfl rfl (fun X _ => by simp [go_sem]) ?_
    simp only [List.getElem_toArray, List.getElem_cons_zero, Act.put, List.setIfInBounds_toArray, List.set_cons_zero, List.set_cons_succ]
    refine wpX_f _ (.agg (row 32 (yv ch)).toArray) rfl rfl (fun X hX => exec_loadR 25 (.tmp 11) rfl cb 0 32 _ rfl (hCD.out.carry hX).child.range Tryd.underlying25 rfl info24) ?_
    simp only [List.getElem_toArray, List.getElem_cons_zero, List.getElem_cons_succ, Act.put, List.setIfInBounds_toArray, List.set_cons_zero, List.set_cons_succ]
    refine wpX_f _ (.agg (row 32 (yv root)).toArray) rfl rfl (fun X hX => exec_loadR 25 (.tmp 9) rfl (w.heap.size + 2) 0 32 _ rfl (hCD.out.carry hX).root.range Tryd.underlying25 rfl info24) ?_
    simp only [List.getElem_toArray, List.getElem_cons_zero, List.getElem_cons_succ, Act.put, List.setIfInBounds_toArray, List.set_cons_zero, List.set_cons_succ]
    refine wpX_call _ rfl rfl (by simp [go_sem]) ((root_any n ch W.drew (hC.out.ext hCD.out.ext)).mono ?_)
    rintro e w9 ⟨rfl, hX9⟩
    refine ⟨_, rfl, fun X => Ext w9 X, fun X hX => Ext.trans hX9 hX, Ext.refl _, ?_⟩
    simp only [List.getElem_toArray, List.getElem_cons_zero, List.getElem_cons_succ, Act.put, List.setIfInBounds_toArray, List.set_cons_zero, List.set_cons_succ]
    refine wpX_f _ (.bool (!(eqN 32 (rootF n ch) root))) rfl rfl (fun X hX => exec_cmp .neq 25 25 (.tmp 50) (.tmp 51) rfl _ _ rfl rfl (by kernel_rfl) _ (neq25 _ _ X)) ?_
    simp only [List.getElem_toArray, List.getElem_cons_zero, List.getElem_cons_succ, Act.put, List.setIfInBounds_toArray, List.set_cons_zero, List.set_cons_succ]
    refine wpX_nil ?_
    have hC9 := hideit (hCD.out.carry hX9)
    have hKO : KeepsOthers W w9 := (KeepsOthers.drew W).trans (KeepsOthers.of_ext hX9)
    clear hCI hCD hX9
    cases hb : eqN 32 (rootF n ch) root with
    | false =>
      have e1 := hC9.out.res.1 0 (by decide)
      have e2 := hC9.out.res.2.1 0 (by decide)
      have hR9 := hideit ((hC9.out.res.set 0 (.int .i64 160)).congr (g' := fun _ => .int .i64 160) fun t ht => by rw [if_pos (by omega)])
      have hE9 := hideit (Below.setCell (p := ⟨w.heap.size + 3, 0, none⟩) hC9.out.ext (by show w.heap.size ≤ w.heap.size + 3; omega) (.int .i64 160))
      have hK9 := hideit ((hKO.trans (KeepsOthers.setCell _ ⟨w.heap.size + 3, 0, none⟩ (.int .i64 160))).same D _ hK.out rfl)
      go_upto_region 11 with (fail)
      refine wp_region_lit ?_
      refine wpList_st rfl (w9.setCell ⟨w.heap.size + 3, 0, none⟩ (.int .i64 160)) (by simp [go_sem, e1, e2]) ?_
      generalize w9.setCell ⟨w.heap.size + 3, 0, none⟩ (.int .i64 160) = w10 at *
      clear e1 e2 hC9 hKO
      simp only [Act.put]
      go_wp2
      have hc := (hR9.out.put (o' := .deferred none) hK9.out rfl).1 0 (by decide)
      refine postM_mark rfl hK9.out (v := .int .i64 160) (by simp [results, Tryd.results21, go_sem, hc]) ⟨160, rfl, ext_put hE9.out (by omega) hK9.out, .inr ⟨rfl, fun h => by have h1 := eqN_iff.2 h.2; rw [← hch.out, hb] at h1; cases h1⟩⟩
    | true =>
      have e1 := hC9.out.res.1 0 (by decide)
      have e2 := hC9.out.res.2.1 0 (by decide)
      have hR9 := hideit ((hC9.out.res.set 0 (.int .i64 0)).congr (g' := fun _ => .int .i64 0) fun t ht => by rw [if_pos (by omega)])
      have hE9 := hideit (Below.setCell (p := ⟨w.heap.size + 3, 0, none⟩) hC9.out.ext (by show w.heap.size ≤ w.heap.size + 3; omega) (.int .i64 0))
      have hK9 := hideit ((hKO.trans (KeepsOthers.setCell _ ⟨w.heap.size + 3, 0, none⟩ (.int .i64 0))).same D _ hK.out rfl)
      go_upto_region 12 with (fail)
      refine wp_region_lit ?_
      refine wpList_st rfl (w9.setCell ⟨w.heap.size + 3, 0, none⟩ (.int .i64 0)) (by simp [go_sem, e1, e2]) ?_
      generalize w9.setCell ⟨w.heap.size + 3, 0, none⟩ (.int .i64 0) = w10 at *
      clear e1 e2 hC9 hKO
      simp only [Act.put]
      go_wp2
      have hc := (hR9.out.put (o' := .deferred none) hK9.out rfl).1 0 (by decide)
      refine postM_mark rfl hK9.out (v := .int .i64 0) (by simp [results, Tryd.results21, go_sem, hc]) ⟨0, rfl, ext_put hE9.out (by omega) hK9.out, .inl ⟨rfl, hok.out, by rw [← hch.out]; exact eqN_iff.1 hb⟩⟩
  case stop =>
    rintro D c pre W hD hS ⟨rfl, hno, hE, hR⟩ hK
    refine wpIn_ret ?_
    have hc := (hR.put (o' := .deferred none) hK rfl).1 0 (by decide)
    refine postM_mark rfl hK (v := .int .i64 160) (by simp [results, Tryd.results21, go_sem, hc]) ⟨160, rfl, ext_put hE (by omega) hK, .inr ⟨rfl, fun h => chL_prefix hS hno h.1⟩⟩
end Go.Proofs.YtapmheocllicnaaDoor
