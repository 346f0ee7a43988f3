/-
  RB1, RB2, RB3, RAb.
-/
import Derived.Test.YtapmheocllicnaaDoorRNdM
import Derived.Test.YtapmheocllicnaaDoorCg1
import Derived.Test.YtapmheocllicnaaDoorOpLM
namespace Go.Proofs.YtapmheocllicnaaDoor
open Go.RowKit Go.BigFrame
/-- a block of bytes -/
def NT (b : Nat) (W : World) : Prop := ∃ cur fz, W.heap[b]? = some (.cells cur 5 fz)
theorem NT.lt {b : Nat} {W : World} (h : NT b W) : b < W.heap.size := by
  obtain ⟨c, z, h⟩ := h
  exact (Array.getElem?_eq_some_iff.1 h).1
theorem NT.ext {b : Nat} {W Y : World} (h : NT b W) (e : Ext W Y) : NT b Y := by
  obtain ⟨c, z, h1⟩ := h
  exact ⟨c, z, (Below.block e b (NT.lt ⟨c, z, h1⟩)).trans h1⟩
theorem NT.grown {b : Nat} {W Y : World} {r : Option Nat} (h : NT b W) (hg : W.grownBy Y r) (hne : some b ≠ r) : NT b Y := by
  obtain ⟨c, z, h1⟩ := h
  exact ⟨c, z, (hg.block b (NT.lt ⟨c, z, h1⟩) hne).trans h1⟩
theorem NT.set {b : Nat} {W : World} (h : NT b W) (p : Addr) (v : Value) : NT b (W.setCell p v) := by
  obtain ⟨c, z, h1⟩ := h
  unfold NT World.setCell
  simp only [Array.getElem?_modify, h1]
  by_cases hp : p.block = b
  · rw [if_pos hp]
    exact ⟨_, _, rfl⟩
  · rw [if_neg hp]
    exact ⟨_, _, rfl⟩
theorem NT.new (W : World) (c : Array Value) : NT W.heap.size (W.alloc (.cells c 5)) := ⟨c, (0, 0), by
  show (W.heap.push (.cells c 5))[W.heap.size]? = _
  simp⟩
/-- a list of digests lies in no block of bytes -/
theorem ownK_nt {base n : Nat} {v : Value} {g : Nat → Value} {W : World} {b : Nat} (h : OwnK 32 base 25 v n g W) (hb : NT b W) : some b ≠ v.ownBlock := by
  obtain ⟨c, z, h1⟩ := hb
  obtain ⟨_, ⟨rfl, _⟩ | ⟨g', cap, cur, rfl, _, h2, _⟩⟩ := h
  · intro e
    cases e
  · intro e
    injection e with e
    subst e
    have h2' : W.heap[b]? = some (.cells cur 25 (0, 0)) := h2
    rw [h1] at h2'
    injection h2' with h2'
    injection h2' with _ h3
    exact absurd h3 (by decide)
/-- a level on its way: so many of its nodes are made -/
structure RL (W0 : World) (q : Nat) (f : Nat → Nat → BitVec 8) (g : Nat → Nat → BitVec 8) (nv xv : Value) (nb : Nat → Nat) (W : World) : Prop where
  ext : Ext W0 W
  own : OwnB W0.heap.size 23 nv q (chV nb fun _ => 512) W
  nil : q = 0 → nv = .slice none 0 0
  nxt : OwnK 32 W0.heap.size 25 xv q (lfV g) W
  nxn : q = 0 → xv = .slice none 0 0
  nodes : ∀ i, i < q → W0.heap.size ≤ nb i ∧ RowAt (nb i) 512 (yv (f i)) W ∧ NT (nb i) W
section
variable {W0 : World} {q : Nat} {f g : Nat → Nat → BitVec 8} {nv xv : Value} {nb : Nat → Nat} {W Y : World}
theorem RL.carry (h : RL W0 q f g nv xv nb W) (e : Ext W Y) : RL W0 q f g nv xv nb Y :=
  ⟨Ext.trans h.ext e, h.own.ext e, h.nil, h.nxt.ext e, h.nxn, fun i hi => ⟨(h.nodes i hi).1, (h.nodes i hi).2.1.carry e, (h.nodes i hi).2.2.ext e⟩⟩
theorem RL.ne (h : RL W0 q f g nv xv nb W) : nv.ownBlock = none ∨ nv.ownBlock ≠ xv.ownBlock := by
  rcases (by omega : q = 0 ∨ 0 < q) with h0 | h0
  · rw [h.nil h0]
    exact .inl rfl
  · obtain ⟨b, c, e, _, _, _, hR⟩ := h.nxt.lies h0
    right
    have := own_ne h.own h.nil hR (by omega) (fun e => by cases e)
    rw [e]
    exact fun e => this e.symm
/-- a node more in the list -/
theorem RL.grow1 {b : Nat} {nd : Nat → BitVec 8} (h : RL W0 q f g nv xv nb W) (hb : RowAt b 512 (yv nd) W) (hN : NT b W) (hg : W.grownBy Y nv.ownBlock) :
    Ext W0 Y ∧ OwnK 32 W0.heap.size 25 xv q (lfV g) Y ∧ (∀ i, i < q → RowAt (nb i) 512 (yv (f i)) Y ∧ NT (nb i) Y) ∧ RowAt b 512 (yv nd) Y ∧ NT b Y := by
  have g0 : ∀ (c m : Nat) (u : Nat → BitVec 8), RowAt c m (yv u) W → 0 < m → some c ≠ nv.ownBlock := fun c m u hr hm => own_ne h.own h.nil hr hm (fun e => by cases e)
  refine ⟨grownE h.ext h.own (Nat.le_refl _) hg, h.nxt.kept hg ?_, fun i hi => ⟨(h.nodes i hi).2.1.grown hg (g0 _ _ _ (h.nodes i hi).2.1 (by decide)), (h.nodes i hi).2.2.grown hg (g0 _ _ _ (h.nodes i hi).2.1 (by decide))⟩, hb.grown hg (g0 _ _ _ hb (by decide)), hN.grown hg (g0 _ _ _ hb (by decide))⟩
  rcases (by omega : q = 0 ∨ 0 < q) with h0 | h0
  · rw [h.nxn h0]
    exact .inl rfl
  · obtain ⟨b', c, e, _, _, _, hR⟩ := h.nxt.lies h0
    right
    have := own_ne h.own h.nil hR (by omega) (fun e => by cases e)
    rw [e]
    exact this
end
/-- so many bytes of a node are filled in -/
def flC (d : Nat → Nat → BitVec 8) (m i k j : Nat) : BitVec 8 := if j < k ∧ 16 * i + j / 32 < m then d (16 * i + j / 32) (j % 32) else 0#8
theorem flC_all (d : Nat → Nat → BitVec 8) (m i c j : Nat) (hj : j < 512) (hc : c = 16 ∨ m ≤ 16 * i + c) : flC d m i (32 * c) j = nodeC d m i j := by
  unfold flC nodeC
  by_cases h : 16 * i + j / 32 < m
  · rw [if_pos ⟨by omega, h⟩, if_pos h]
  · rw [if_neg (fun e => h e.2), if_neg h]
theorem flC_set (d : Nat → Nat → BitVec 8) (m i c k j : Nat) (hk : k < 32) (hc : 16 * i + c < m) : flC d m i (32 * c + (k + 1)) j = if j = 32 * c + k then d (16 * i + c) k else flC d m i (32 * c + k) j := by
  unfold flC
  by_cases h : j = 32 * c + k
  · rw [if_pos h, if_pos (by omega), show 16 * i + j / 32 = 16 * i + c by omega, show j % 32 = k by omega]
  · rw [if_neg h]
    by_cases h2 : j < 32 * c + k ∧ 16 * i + j / 32 < m
    · rw [if_pos h2, if_pos ⟨by omega, h2.2⟩]
    · rw [if_neg h2, if_neg (fun e => h2 ⟨by omega, e.2⟩)]
end Go.Proofs.YtapmheocllicnaaDoor

namespace Go.Proofs.YtapmheocllicnaaDoor
open Go.RowKit Go.BigFrame
/-- a level of nodes -/
def Lv (base : Nat) (v : Value) (k : Nat) (f : Nat → Nat → BitVec 8) (W : World) : Prop := ∃ B cap nb, v = .slice (some ⟨B, 0, none⟩) k cap ∧ k ≤ cap ∧ k ≤ 256 ∧ 0 < k ∧ RowAt B k (chV nb fun _ => 512) W ∧ (∀ i, i < k → RowAt (nb i) 512 (yv (f i)) W) ∧ base ≤ B ∧ ∀ i, i < k → base ≤ nb i
theorem Lv.ext {base : Nat} {v : Value} {k : Nat} {f : Nat → Nat → BitVec 8} {W Y : World} (h : Lv base v k f W) (e : Ext W Y) : Lv base v k f Y := by
  obtain ⟨B, cap, nb, h1, h2, h3, h4, h5, h6, h7, h8⟩ := h
  exact ⟨B, cap, nb, h1, h2, h3, h4, h5.carry e, fun i hi => (h6 i hi).carry e, h7, h8⟩
theorem Lv.but {base c : Nat} {v : Value} {k : Nat} {f : Nat → Nat → BitVec 8} {W Y : World} (h : Lv base v k f W) (e : But c W Y) (hc : c < base) : Lv base v k f Y := by
  obtain ⟨B, cap, nb, h1, h2, h3, h4, h5, h6, h7, h8⟩ := h
  exact ⟨B, cap, nb, h1, h2, h3, h4, h5.but e (by omega), fun i hi => (h6 i hi).but e (by have := h8 i hi; omega), h7, h8⟩
theorem Lv.parts {base : Nat} {v : Value} {k : Nat} {f : Nat → Nat → BitVec 8} {W : World} (h : Lv base v k f W) : ∃ us, Parts v k us (fun _ => 512) f W := by
  obtain ⟨B, cap, nb, rfl, h2, h3, h4, h5, h6, -⟩ := h
  exact ⟨_, .inr ⟨_, cap, rfl, h2, h5.lie _ (Nat.le_refl _)⟩, fun i hi => .inr ⟨_, 512, rfl, Nat.le_refl _, (h6 i hi).lie 512 (Nat.le_refl _)⟩⟩
/-- how the document's Build stands on its way -/
structure RB (w : World) (n N cb : Nat) (d : Nat → Nat → BitVec 8) (q : Nat) (ov hv : Value) (lvs : Nat → Value) (W : World) : Prop where
  ext : Ext w W
  own : OwnB (w.heap.size + 1) 33 ov q lvs W
  nil : q = 0 → ov = .slice none 0 0
  levs : ∀ j, j < q → Lv (w.heap.size + 1) (lvs j) (lc n j) (nodeB n d j) W
  kids : LV hv (lcP n q) (digB n d q) W
  cnts : RowAt cb N (lcV n) W
  res : RowAt w.heap.size 32 (yv fun _ => 0#8) W
theorem RB.carry {w : World} {n N cb : Nat} {d : Nat → Nat → BitVec 8} {q : Nat} {ov hv : Value} {lvs : Nat → Value} {W Y : World} (h : RB w n N cb d q ov hv lvs W) (e : Ext W Y) : RB w n N cb d q ov hv lvs Y :=
  ⟨Ext.trans h.ext e, h.own.ext e, h.nil, fun j hj => (h.levs j hj).ext e, h.kids.ext e, h.cnts.carry e, h.res.carry e⟩
theorem RB.grow {w : World} {n N cb : Nat} {d : Nat → Nat → BitVec 8} {q B0 : Nat} {ov hv ov' u xv : Value} {lvs : Nat → Value} {W Y : World} (h : RB w n N cb d q ov hv lvs W) (hu : Lv (w.heap.size + 1) u (lc n q) (nodeB n d q) W) (hx : OwnK 32 B0 25 xv (lc n q) (lfV (digB n d (q + 1))) W) (hN : 0 < N)
    (hg : W.grownBy Y ov.ownBlock) (hO : OwnB (w.heap.size + 1) 33 ov' (q + 1) (fun j => if j = q then u else lvs j) Y) : RB w n N cb d (q + 1) ov' xv (fun j => if j = q then u else lvs j) Y := by
  have ne : ∀ (b m : Nat) (f : Nat → Value), RowAt b m f W → 0 < m → (∀ B k c, k ≤ 256 → f 0 ≠ .slice (some B) k c) → some b ≠ ov.ownBlock := fun b m f hR hm hne => by
    rcases (by omega : q = 0 ∨ 0 < q) with h0 | h0
    · rw [h.nil h0]
      intro e
      cases e
    · refine own_ne h.own h.nil hR hm ?_
      obtain ⟨B, cap, nb, e, _, h2, _⟩ := h.levs 0 h0
      rw [e]
      exact fun e => hne _ _ _ h2 e.symm
  have lv : ∀ v k f, Lv (w.heap.size + 1) v k f W → Lv (w.heap.size + 1) v k f Y := fun v k f hl => by
    obtain ⟨B, cap, nb, h1, h2, h3, h4, h5, h6, h7⟩ := hl
    exact ⟨B, cap, nb, h1, h2, h3, h4, h5.grown hg (ne _ _ _ h5 h4 (fun B k c hk e => by injection e with _ e _; omega)), fun i hi => (h6 i hi).grown hg (ne _ _ _ (h6 i hi) (by decide) (fun B k c hk e => by cases e)), h7⟩
  refine ⟨grownE h.ext h.own (by omega) hg, hO, fun h => absurd h (by omega), fun j hj => ?_, ?_, h.cnts.grown hg (ne _ _ _ h.cnts hN (fun B k c hk e => by cases e)), h.res.grown hg (ne _ _ _ h.res (by decide) (fun B k c hk e => by cases e))⟩
  · by_cases e : j = q
    · subst e
      simp only [if_true]
      exact lv _ _ _ hu
    · simp only [e, if_false]
      exact lv _ _ _ (h.levs j (by omega))
  · obtain ⟨B, cap, nb, h1, h2, h3, h4, h5, h6⟩ := hu
    obtain ⟨xb, xc, rfl, hxb, hxc, _, hR⟩ := hx.lies h4
    have := hR.grown hg (ne _ _ _ hR (by omega) (fun B k c hk e => by cases e))
    exact .inr ⟨_, xc, rfl, hxc, this.lie _ (Nat.le_refl _)⟩
set_option maxRecDepth 20000 in
set_option maxHeartbeats 16000000 in
theorem rbuild_any (n : Nat) (h1 : 1 ≤ n) (h2 : n ≤ 4096) (v : Value) (d : Nat → Nat → BitVec 8) (w : World) (hL : LV v n d w) :
    Calls Tryd.prog 10 #[v] w fun e w' => ∃ lv lvs, e = .returned (.tuple #[lv, .agg (row 32 (yv (rootF n (digB n d (lvN n) 0)))).toArray, .int .i64 0]) ∧ OwnB w.heap.size 33 lv (lvN n) lvs w' ∧ (∀ j, j < lvN n → Lv (w.heap.size + 1) (lvs j) (lc n j) (nodeB n d j) w') ∧ Ext w w' := by
  obtain ⟨ov, cap, rfl⟩ := hL.form
  have hlvl := bld_lv n h1 h2
  have htop := bld_top n h1 h2
  have hN := lvN_pos n
  have hz := zero24
  have HR0 := RowAt.new w 32 (yv fun _ => 0#8) 25
  have HE0 : Ext w (w.alloc (.cells (row 32 (yv fun _ => 0#8)).toArray 25)) := (Below.refl _ _).alloc (Nat.le_refl _) _
  have kl := hideit (rlevels_any n (w.alloc (.cells (row 32 (yv fun _ => 0#8)).toArray 25)) h1 h2)
  obtain ⟨N, hNN⟩ : ∃ N, N = lvN n := ⟨_, rfl⟩
  rw [← hNN] at kl hlvl htop hN ⊢
  replace hlvl := hideit hlvl
  replace htop := hideit htop
  replace hL := hideit hL
  replace HR0 := hideit HR0
  replace HE0 := hideit HE0
  clear hNN
  go_enter Tryd.func10, Tryd.ntmps10
  go_upto_region 1 with (fail)
  generalize w.alloc (.cells (row 32 (yv fun _ => 0#8)).toArray 25) = w1 at *
  refine wp_region_lit ?_
  refine wpList_run rfl (.slice ov n cap) (by simp [go_sem]) ?_
  simp only [Act.put, List.setIfInBounds_toArray, List.set_cons_zero, List.set_cons_succ]
  refine wpList_run rfl (.int .i64 (n : Int)) (by simp [go_sem]) ?_
  simp only [Act.put, List.setIfInBounds_toArray, List.set_cons_zero, List.set_cons_succ]
  refine wpList_call rfl (by simp [go_sem]) (kl.out.mono ?_)
  rintro e w2 ⟨v2, rfl, hO2, hX2⟩
  refine ⟨_, rfl, ?_⟩
  simp only [Act.put, List.setIfInBounds_toArray, List.set_cons_zero, List.set_cons_succ]
  obtain ⟨cb, cc, rfl, -, hcc, -, hcb⟩ := hO2.lies (by omega)
  have HB0 : RB w n N cb d 0 (.slice none 0 0) (.slice ov n cap) (fun _ => undef) w2 := ⟨Ext.trans HE0.out hX2, own_nil _ _ _ _, fun _ => rfl, fun j hj => absurd hj (by omega), hL.out.ext (Ext.trans HE0.out hX2), hcb, HR0.out.carry hX2⟩
  replace HB0 := hideit HB0
  clear hO2 hX2 hcb HR0 HE0 kl hL hcc
  have n0 : ¬ (N : Int) = 0 := by omega
  go_wp2
  go_loopw [6, 7, 8] (fun ov hv kv X => ∃ (q : Nat) (lvs : Nat → Value), q ≤ N ∧ kv = .int .i64 (q : Int) ∧ RB w n N cb d q ov hv lvs X) (fun _ _ kv _ => N - (intOf kv).toNat)
  case atStart => exact ⟨0, _, Nat.zero_le _, rfl, HB0.out⟩
  case round =>
    clear HB0
    obtain ⟨q, lvs, hqN, rfl, HB⟩ := hrel
    replace HB := hideit HB
    by_cases hq : q < N
    · have q1 : (q : Int) < (N : Int) := by omega
      obtain ⟨cnt, hcnt⟩ : ∃ cnt, cnt = lc n q := ⟨_, rfl⟩
      have hl := hlvl.out q hq
      rw [← hcnt] at hl
      obtain ⟨ho, hc, rfl⟩ := HB.out.kids.form
      obtain ⟨ha, rfl, hlv⟩ : ∃ a, ho = some a ∧ LieAt a (lcP n q * 32) (lfV (digB n d q)) wr := by
        rcases HB.out.kids with ⟨h, h0⟩ | ⟨a, cap', h, _, h3⟩
        · omega
        · injection h with e1 e2 e3
          exact ⟨a, e1, h3⟩
      replace hlv := hideit hlv
      generalize wr = W0 at *
      go_wp2
      go_loopw [9, 10, 11] (fun nv xv iv X => ∃ (i : Nat) (nb : Nat → Nat), i ≤ cnt ∧ iv = .int .i64 (i : Int) ∧ RL W0 i (nodeC (digB n d q) (lcP n q)) (dgV (BitVec.ofNat 8 q) fun z => nodeC (digB n d q) (lcP n q) z) nv xv nb X) (fun _ _ iv _ => cnt - (intOf iv).toNat)
      case atStart => exact ⟨0, fun _ => 0, Nat.zero_le _, rfl, Ext.refl _, own_nil _ _ _ _, fun _ => rfl, ⟨by rw [Nat.zero_mul]; rfl, .inl ⟨rfl, rfl⟩⟩, fun _ => rfl, fun i hi => absurd hi (by omega)⟩
      case round =>
        obtain ⟨i, nb, hi, rfl, hL⟩ := hrel
        replace hL := hideit hL
        have q0 : (0 : Int) ≤ (q : Int) := by omega
        have cq : wr.cell? ⟨cb, q, none⟩ = some (.int .i64 (cnt : Int)) := by rw [hcnt]; exact (HB.out.cnts.carry hL.out.ext).1 q hq
        have q2 : (q : Int) < (N : Int) := by omega
        by_cases hic : i < cnt
        · have i1 : (i : Int) < (cnt : Int) := by omega
          obtain ⟨A, hA⟩ : ∃ A, A = 16 * i := ⟨_, rfl⟩
          have w16 : IntKind.i64.wrap (16 * (i : Int)) = (A : Int) := by rw [IntKind.wrap_i64]; omega
          have hmb := fun j hj => made_at (Value.int .u8 0).cells (512 * 1) (.int .u8 0) (fun k hk => by
            have : k = 0 := by simpa [Value.cells] using hk
            subst this
            rfl) (by decide) j hj
          have HB0 := hideit (RowAt.newOf wr 512 (yv fun _ => 0#8) 5 (madeCells (Value.int .u8 0).cells (512 * 1)) (fun j hj => hmb j (by omega)))
          have HT0 := hideit (NT.new wr (madeCells (Value.int .u8 0).cells (512 * 1)))
          have hX1 : Ext wr (wr.alloc (.cells (madeCells (Value.int .u8 0).cells (512 * 1)) 5)) := (Below.refl _ _).alloc (Nat.le_refl _) _
          have hbW : W0.heap.size ≤ wr.heap.size := Below.size hL.out.ext
          replace hX1 := hideit hX1
          clear hmb
          go_upto_region 14 with (fail)
          refine wp_region_lit ?_
          refine wpList_to rfl (.slice (some ⟨wr.heap.size, 0, none⟩) 512 512) (wr.alloc (.cells (madeCells (Value.int .u8 0).cells (512 * 1)) 5)) (exec_made 23 5 (.const (.int .i64 512)) (.const (.int .i64 512)) rfl _ 1 1 512 Tryd.underlying23 infoB rfl rfl (by decide) (by decide)) ?_
          simp only [Act.put, List.setIfInBounds_toArray, List.set_cons_zero, List.set_cons_succ]
          obtain ⟨W1, hW1⟩ : ∃ W1, W1 = wr.alloc (.cells (madeCells (Value.int .u8 0).cells (512 * 1)) 5) := ⟨_, rfl⟩
          rw [← hW1] at HB0 HT0 hX1 ⊢
          clear hW1
          obtain ⟨b, hbb⟩ : ∃ b, b = wr.heap.size := ⟨_, rfl⟩
          rw [← hbb] at HB0 HT0 hbW ⊢
          clear cq
          go_wp2
          go_loopw [13] (fun cv X => ∃ c : Nat, c ≤ 16 ∧ cv = .int .i64 (c : Int) ∧ RowAt b 512 (yv (flC (digB n d q) (lcP n q) i (32 * c))) X ∧ NT b X ∧ But b W1 X) (fun cv _ => 16 - (intOf cv).toNat)
          case atStart => exact ⟨0, by omega, rfl, HB0.out.congr fun j hj => by
              show _ = Value.int .u8 ((flC (digB n d q) (lcP n q) i (32 * 0) j).toNat : Int)
              unfold flC
              rw [if_neg (by omega)]
              rfl, HT0.out, But.refl _ _⟩
          case round =>
            clear HB0 HT0
            obtain ⟨c, hc16, rfl, hR, hN, hB⟩ := hrel
            by_cases hin : c < 16
            · have c1 : (c : Int) < 16 := by omega
              obtain ⟨e, he⟩ : ∃ e, e = 16 * i + c := ⟨_, rfl⟩
              have we : IntKind.i64.wrap ((A : Int) + (c : Int)) = (e : Int) := by rw [IntKind.wrap_i64]; omega
              by_cases he2 : e < lcP n q
              · have e1 : (e : Int) < (lcP n q : Int) := by omega
                replace hR := hideit hR
                replace hN := hideit hN
                replace hB := hideit hB
                go_wp2
                go_loopw [14] (fun mv X => ∃ m : Nat, m ≤ 32 ∧ mv = .int .i64 (m : Int) ∧ RowAt b 512 (yv (flC (digB n d q) (lcP n q) i (32 * c + m))) X ∧ NT b X ∧ But b W1 X) (fun mv _ => 32 - (intOf mv).toNat)
                case atStart => exact ⟨0, by omega, rfl, hR.out, hN.out, hB.out⟩
                case round =>
                  clear hR hN hB
                  obtain ⟨m, hm, rfl, hR, hN, hB⟩ := hrel
                  by_cases hm32 : m < 32
                  · obtain ⟨o, ho⟩ : ∃ o, o = 32 * c + m := ⟨_, rfl⟩
                    have wo : IntKind.i64.wrap (32 * (c : Int) + (m : Int)) = (o : Int) := by rw [IntKind.wrap_i64]; omega
                    have w32 : IntKind.i64.wrap (32 * (c : Int)) = 32 * (c : Int) := by rw [IntKind.wrap_i64]; omega
                    have m0 : (0 : Int) ≤ (m : Int) := by omega
                    have m1 : (m : Int) < 32 := by omega
                    have o1 : (o : Int) < 512 := by omega
                    have cd : wr.cell? ((ha.add (e * 32)).add m) = some (yv (digB n d q e) m) := by
                      have h := (lie_leaf (hlv.out.carry (Ext.trans hL.out.ext (((But.of_ext (c := b) hX1.out).trans hB).fresh (by omega)))) e he2).1 m hm32
                      exact h
                    have cb := hR.1 o (by omega)
                    have cb2 := hR.2.1 o (by omega)
                    have R2 := hideit ((hR.set o (yv (digB n d q e) m)).congr (g' := yv (flC (digB n d q) (lcP n q) i (32 * c + (m + 1)))) fun j hj => by
                      have h := flC_set (digB n d q) (lcP n q) i c m j hm32 (by omega)
                      show _ = Value.int .u8 ((flC (digB n d q) (lcP n q) i (32 * c + (m + 1)) j).toNat : Int)
                      rw [h]
                      by_cases hj2 : j = o
                      · rw [if_pos hj2, if_pos (by omega), he]; rfl
                      · rw [if_neg hj2, if_neg (by omega)]; rfl)
                    have B2 := hideit (hB.trans (but_setCell wr b o (yv (digB n d q e) m)))
                    have N2 := hideit (hN.set ⟨b, o, none⟩ (yv (digB n d q e) m))
                    replace wo := hideit wo
                    replace w32 := hideit w32
                    replace ho := hideit ho
                    clear hR hN hB
                    go_upto_region 21 with (fail)
                    refine wp_region_lit ?_
                    refine wpList_run rfl (.slice (some ⟨b, 0, none⟩) 512 512) (by simp [go_sem]) ?_
                    simp only [Act.put, List.setIfInBounds_toArray, List.set_cons_zero, List.set_cons_succ]
                    refine wpList_run rfl (.int .i64 (c : Int)) (by simp [go_sem]) ?_
                    simp only [Act.put, List.setIfInBounds_toArray, List.set_cons_zero, List.set_cons_succ]
                    refine wpList_run rfl (.int .i64 (32 * (c : Int))) (by simp [go_sem, w32.out]) ?_
                    simp only [Act.put, List.setIfInBounds_toArray, List.set_cons_zero, List.set_cons_succ]
                    refine wpList_run rfl (.int .i64 (m : Int)) (by simp [go_sem]) ?_
                    simp only [Act.put, List.setIfInBounds_toArray, List.set_cons_zero, List.set_cons_succ]
                    refine wpList_run rfl (.int .i64 (o : Int)) (by simp [go_sem, wo.out]) ?_
                    simp only [Act.put, List.setIfInBounds_toArray, List.set_cons_zero, List.set_cons_succ]
                    refine wpList_run rfl (.slice (some ha) (lcP n q) hc) (by simp [go_sem]) ?_
                    simp only [Act.put, List.setIfInBounds_toArray, List.set_cons_zero, List.set_cons_succ]
                    refine wpList_run rfl (.int .i64 (i : Int)) (by simp [go_sem]) ?_
                    simp only [Act.put, List.setIfInBounds_toArray, List.set_cons_zero, List.set_cons_succ]
                    refine wpList_run rfl (.int .i64 (A : Int)) (by simp [go_sem, w16]) ?_
                    simp only [Act.put, List.setIfInBounds_toArray, List.set_cons_zero, List.set_cons_succ]
                    refine wpList_run rfl (.int .i64 (c : Int)) (by simp [go_sem]) ?_
                    simp only [Act.put, List.setIfInBounds_toArray, List.set_cons_zero, List.set_cons_succ]
                    refine wpList_run rfl (.int .i64 (e : Int)) (by simp [go_sem, we]) ?_
                    simp only [Act.put, List.setIfInBounds_toArray, List.set_cons_zero, List.set_cons_succ]
                    refine wpList_run rfl (.int .i64 (m : Int)) (by simp [go_sem]) ?_
                    simp only [Act.put, List.setIfInBounds_toArray, List.set_cons_zero, List.set_cons_succ]
                    refine wpList_run rfl (.pointer (some (ha.add (e * 32)))) (by simp [go_sem, e1]) ?_
                    simp only [Act.put, List.setIfInBounds_toArray, List.set_cons_zero, List.set_cons_succ]
                    refine wpList_run rfl (.pointer (some ((ha.add (e * 32)).add m))) (by simp [go_sem, m1]) ?_
                    simp only [Act.put, List.setIfInBounds_toArray, List.set_cons_zero, List.set_cons_succ]
                    refine wpList_run rfl (yv (digB n d q e) m) (by simp [go_sem, cd]) ?_
                    simp only [Act.put, List.setIfInBounds_toArray, List.set_cons_zero, List.set_cons_succ]
                    refine wpList_run rfl (.pointer (some ⟨b, o, none⟩)) (by simp [go_sem, o1]) ?_
                    simp only [Act.put, List.setIfInBounds_toArray, List.set_cons_zero, List.set_cons_succ]
                    refine wpList_st rfl (wr.setCell ⟨b, o, none⟩ (yv (digB n d q e) m)) (by simp [go_sem, cb, cb2, yv]) ?_
                    generalize wr.setCell ⟨b, o, none⟩ (yv (digB n d q e) m) = w12 at *
                    clear cd cb cb2
                    simp only [Act.put]
                    go_wp2
                    exact ⟨⟨m + 1, by omega, by go_num, R2.out, N2.out, B2.out⟩, by simp [intOf]; omega⟩
                  · obtain rfl : m = 32 := by omega
                    have m1 : ¬ ((32 : Nat) : Int) < 32 := by omega
                    replace hR := hideit hR
                    replace hN := hideit hN
                    replace hB := hideit hB
                    go_wp2
                    exact ⟨⟨c + 1, by omega, by go_num, by rw [Nat.mul_add]; exact hR.out, hN.out, hB.out⟩, by simp [intOf]; omega⟩
              · have e1 : ¬ (e : Int) < (lcP n q : Int) := by omega
                have HR := hideit (hR.congr (g' := yv (nodeC (digB n d q) (lcP n q) i)) fun j hj => by
                  show Value.int .u8 _ = Value.int .u8 _
                  rw [flC_all _ _ _ _ _ hj (by omega)])
                have HL := hideit (hL.out.carry (((But.of_ext (c := b) hX1.out).trans hB).fresh (by omega)))
                have HN := hideit hN
                clear hR hN hB hL hX1
                have hX5 : Ext wr (wr.alloc (.cells #[.slice (some ⟨b, 0, none⟩) 512 512] 23)) := (Below.refl _ _).alloc (Nat.le_refl _) _
                have hN5 := hideit (lie_us wr 1 #[.slice (some ⟨b, 0, none⟩) 512 512] (fun _ => .slice (some ⟨b, 0, none⟩) 512 512) (fun j hj => by
                  have : j = 0 := by omega
                  subst this
                  rfl) 23)
                have HL4 := hideit (HL.out.carry hX5)
                have HR4 := hideit (HR.out.carry hX5)
                have HN4 := hideit (HN.out.ext hX5)
                clear HL HR HN
                go_upto_region 22 with (fail)
                refine wp_region_lit ?_
                refine wpList_run rfl (u9) (by simp [go_sem]) ?_
                simp only [Act.put, List.setIfInBounds_toArray, List.set_cons_zero, List.set_cons_succ]
                refine wpList_run rfl (.slice (some ⟨b, 0, none⟩) 512 512) (by simp [go_sem]) ?_
                simp only [Act.put, List.setIfInBounds_toArray, List.set_cons_zero, List.set_cons_succ]
                refine wpList_to rfl (.slice (some ⟨wr.heap.size, 0, none⟩) 1 1) (wr.alloc (.cells #[.slice (some ⟨b, 0, none⟩) 512 512] 23)) (by simp [go_sem]) ?_
                simp only [Act.put, List.setIfInBounds_toArray, List.set_cons_zero, List.set_cons_succ]
                generalize wr.alloc (.cells #[.slice (some ⟨b, 0, none⟩) 512 512] 23) = w16a at *
                generalize wr.heap.size = ab at *
                refine wpList_growE (n := i) (base := W0.heap.size) elem33 rfl (.tmp 70) (.tmp 72) rfl rfl HL4.out.own ⟨ab, 0, none⟩ 1 1 (fun _ => .slice (some ⟨b, 0, none⟩) 512 512) (chV (fun z => if z = i then b else nb z) fun _ => 512) rfl hN5.out (fun _ _ => rfl) (fun z hz => by
                  unfold chV
                  simp only [show ¬ z = i by omega, if_false]) (fun z hz => by
                  rw [show z = 0 by omega]
                  unfold chV
                  simp only [Nat.add_zero, if_true]) (by omega) (by omega) (Below.size HL4.out.ext) ?_
                intro v' Y hO' hg'
                obtain ⟨E5, X5, D5, R5, T5⟩ := HL4.out.grow1 HR4.out HN4.out hg'
                have S5 := HL4.out.nodes
                have Z5 := HL4.out.nxn
                replace hO' := hideit hO'
                replace E5 := hideit E5
                replace X5 := hideit X5
                replace D5 := hideit D5
                replace R5 := hideit R5
                replace T5 := hideit T5
                replace S5 := hideit (fun z hz => (S5 z hz).1)
                replace Z5 := hideit Z5
                clear HL4 HR4 HN4 hN5 hX5 hg'
                simp only [Act.put, List.setIfInBounds_toArray, List.set_cons_zero, List.set_cons_succ]
                go_upto_region 23 with (fail)
                have kn := rnode_any (q : Int) (BitVec.ofNat 8 q) (by rw [BitVec.toNat_ofNat]; omega) (.slice (some ⟨b, 0, none⟩) 512 512) 512 (nodeC (digB n d q) (lcP n q) i) Y (.inr ⟨_, 512, rfl, Nat.le_refl _, R5.out.lie 512 (Nat.le_refl _)⟩) (by decide)
                obtain ⟨G, hG⟩ : ∃ G, G = nodeF (BitVec.ofNat 8 q) (nodeC (digB n d q) (lcP n q) i) 512 := ⟨_, rfl⟩
                rw [← hG] at kn
                replace hG := hideit hG
                replace kn := hideit kn
                refine wp_region_lit ?_
                refine wpList_run rfl (u10) (by simp [go_sem]) ?_
                simp only [Act.put, List.setIfInBounds_toArray, List.set_cons_zero, List.set_cons_succ]
                refine wpList_run rfl (.int .i64 (q : Int)) (by simp [go_sem]) ?_
                simp only [Act.put, List.setIfInBounds_toArray, List.set_cons_zero, List.set_cons_succ]
                refine wpList_run rfl (.slice (some ⟨b, 0, none⟩) 512 512) (by simp [go_sem]) ?_
                simp only [Act.put, List.setIfInBounds_toArray, List.set_cons_zero, List.set_cons_succ]
                refine wpList_call rfl (by simp [go_sem]) ((kn.out).mono ?_)
                rintro e w18 ⟨rfl, hX18⟩
                refine ⟨_, rfl, ?_⟩
                simp only [Act.put, List.setIfInBounds_toArray, List.set_cons_zero, List.set_cons_succ]
                have hXa : Ext w18 (w18.alloc (.cells (row 32 (yv G)).toArray 25)) := (Below.refl _ _).alloc (Nat.le_refl _) _
                have Ca := (RowAt.new w18 32 (yv G) 25).lie 32 (Nat.le_refl _)
                refine wpList_to rfl (.slice (some ⟨w18.heap.size, 0, none⟩) 1 1) (w18.alloc (.cells (row 32 (yv G)).toArray 25)) (by rw [show row 32 (yv G) = [yv G 0, yv G 1, yv G 2, yv G 3, yv G 4, yv G 5, yv G 6, yv G 7, yv G 8, yv G 9, yv G 10, yv G 11, yv G 12, yv G 13, yv G 14, yv G 15, yv G 16, yv G 17, yv G 18, yv G 19, yv G 20, yv G 21, yv G 22, yv G 23, yv G 24, yv G 25, yv G 26, yv G 27, yv G 28, yv G 29, yv G 30, yv G 31] from rfl]; simp [go_sem]) ?_
                simp only [Act.put, List.setIfInBounds_toArray, List.set_cons_zero, List.set_cons_succ]
                have hXb := Ext.trans hX18 hXa
                have O6 := hideit (hO'.out.ext hXb)
                have E6 := hideit (Ext.trans E5.out hXb)
                have X6 := hideit (X5.out.ext hXb)
                have D6 := hideit (fun z hz => And.intro ((D5.out z hz).1.carry hXb) ((D5.out z hz).2.ext hXb))
                have R6 := hideit (R5.out.carry hXb)
                have T6 := hideit (T5.out.ext hXb)
                generalize w18.alloc (.cells (row 32 (yv G)).toArray 25) = w19 at *
                generalize w18.heap.size = gb at *
                clear hO' E5 X5 D5 R5 T5 hX18 hXa hXb kn
                refine wpList_growK (n := i) (base := W0.heap.size) elem22K (by decide) rfl (.tmp 74) (.tmp 78) rfl rfl X6.out ⟨gb, 0, none⟩ 1 1 (yv G) (lfV (dgV (BitVec.ofNat 8 q) fun z => nodeC (digB n d q) (lcP n q) z)) rfl Ca (fun _ _ => rfl) (fun _ _ => rfl) (fun z hz => by
                  rw [lf_row _ _ _ (by omega), hG.out]
                  rfl) (by omega) (by omega) (Below.size E6.out) ?_
                intro x' Y2 hX' hg2
                have ne1 : ∀ z, NT z w19 → some z ≠ u10.ownBlock := fun z hz => ownK_nt X6.out hz
                have H7 : RL W0 (i + 1) (nodeC (digB n d q) (lcP n q)) (dgV (BitVec.ofNat 8 q) fun z => nodeC (digB n d q) (lcP n q) z) v' x' (fun z => if z = i then b else nb z) Y2 := by
                  refine ⟨Below.trans E6.out (below_grown (Below.size E6.out) hg2 fun k hk => (X6.out.lt k hk).1), O6.out.kept hg2 ?_, fun h => absurd h (by omega), hX', fun h => absurd h (by omega), fun z hz => ?_⟩
                  · right
                    rcases (by omega : i = 0 ∨ 0 < i) with h0 | h0
                    · rw [Z5.out h0]
                      obtain ⟨vb, vc, hv', _, _, _, _⟩ := O6.out.lies (by omega)
                      rw [hv']
                      intro h
                      cases h
                    · obtain ⟨b', c', e', _, _, _, hR'⟩ := X6.out.lies h0
                      have h9 := own_ne O6.out (fun h => absurd h (by omega)) hR' (by omega) (fun e => by cases e)
                      rw [e']
                      exact fun h => h9 h.symm
                  · by_cases hz2 : z = i
                    · subst hz2
                      simp only [if_true]
                      exact ⟨hbW, R6.out.grown hg2 (ne1 b T6.out), T6.out.grown hg2 (ne1 b T6.out)⟩
                    · simp only [hz2, if_false]
                      have hd := D6.out z (by omega)
                      exact ⟨S5.out z (by omega), hd.1.grown hg2 (ne1 _ hd.2), hd.2.grown hg2 (ne1 _ hd.2)⟩
                replace H7 := hideit H7
                clear O6 E6 X6 D6 R6 T6 S5 Z5 ne1 hX' hg2 Ca
                simp only [Act.put, List.setIfInBounds_toArray, List.set_cons_zero, List.set_cons_succ]
                go_wp2
                exact ⟨⟨i + 1, _, by omega, by go_num, H7.out⟩, by simp [intOf]; omega⟩
            · have c1 : ¬ (c : Int) < 16 := by omega
              have HR := hideit (hR.congr (g' := yv (nodeC (digB n d q) (lcP n q) i)) fun j hj => by
                show Value.int .u8 _ = Value.int .u8 _
                rw [flC_all _ _ _ _ _ hj (by omega)])
              have HL := hideit (hL.out.carry (((But.of_ext (c := b) hX1.out).trans hB).fresh (by omega)))
              have HN := hideit hN
              clear hR hN hB hL hX1
              have hX5 : Ext wr (wr.alloc (.cells #[.slice (some ⟨b, 0, none⟩) 512 512] 23)) := (Below.refl _ _).alloc (Nat.le_refl _) _
              have hN5 := hideit (lie_us wr 1 #[.slice (some ⟨b, 0, none⟩) 512 512] (fun _ => .slice (some ⟨b, 0, none⟩) 512 512) (fun j hj => by
                have : j = 0 := by omega
                subst this
                rfl) 23)
              have HL4 := hideit (HL.out.carry hX5)
              have HR4 := hideit (HR.out.carry hX5)
              have HN4 := hideit (HN.out.ext hX5)
              clear HL HR HN
              go_upto_region 22 with (fail)
              refine wp_region_lit ?_
              refine wpList_run rfl (u9) (by simp [go_sem]) ?_
              simp only [Act.put, List.setIfInBounds_toArray, List.set_cons_zero, List.set_cons_succ]
              refine wpList_run rfl (.slice (some ⟨b, 0, none⟩) 512 512) (by simp [go_sem]) ?_
              simp only [Act.put, List.setIfInBounds_toArray, List.set_cons_zero, List.set_cons_succ]
              refine wpList_to rfl (.slice (some ⟨wr.heap.size, 0, none⟩) 1 1) (wr.alloc (.cells #[.slice (some ⟨b, 0, none⟩) 512 512] 23)) (by simp [go_sem]) ?_
              simp only [Act.put, List.setIfInBounds_toArray, List.set_cons_zero, List.set_cons_succ]
              generalize wr.alloc (.cells #[.slice (some ⟨b, 0, none⟩) 512 512] 23) = w16a at *
              generalize wr.heap.size = ab at *
              refine wpList_growE (n := i) (base := W0.heap.size) elem33 rfl (.tmp 70) (.tmp 72) rfl rfl HL4.out.own ⟨ab, 0, none⟩ 1 1 (fun _ => .slice (some ⟨b, 0, none⟩) 512 512) (chV (fun z => if z = i then b else nb z) fun _ => 512) rfl hN5.out (fun _ _ => rfl) (fun z hz => by
                unfold chV
                simp only [show ¬ z = i by omega, if_false]) (fun z hz => by
                rw [show z = 0 by omega]
                unfold chV
                simp only [Nat.add_zero, if_true]) (by omega) (by omega) (Below.size HL4.out.ext) ?_
              intro v' Y hO' hg'
              obtain ⟨E5, X5, D5, R5, T5⟩ := HL4.out.grow1 HR4.out HN4.out hg'
              have S5 := HL4.out.nodes
              have Z5 := HL4.out.nxn
              replace hO' := hideit hO'
              replace E5 := hideit E5
              replace X5 := hideit X5
              replace D5 := hideit D5
              replace R5 := hideit R5
              replace T5 := hideit T5
              replace S5 := hideit (fun z hz => (S5 z hz).1)
              replace Z5 := hideit Z5
              clear HL4 HR4 HN4 hN5 hX5 hg'
              simp only [Act.put, List.setIfInBounds_toArray, List.set_cons_zero, List.set_cons_succ]
              go_upto_region 23 with (fail)
              have kn := rnode_any (q : Int) (BitVec.ofNat 8 q) (by rw [BitVec.toNat_ofNat]; omega) (.slice (some ⟨b, 0, none⟩) 512 512) 512 (nodeC (digB n d q) (lcP n q) i) Y (.inr ⟨_, 512, rfl, Nat.le_refl _, R5.out.lie 512 (Nat.le_refl _)⟩) (by decide)
              obtain ⟨G, hG⟩ : ∃ G, G = nodeF (BitVec.ofNat 8 q) (nodeC (digB n d q) (lcP n q) i) 512 := ⟨_, rfl⟩
              rw [← hG] at kn
              replace hG := hideit hG
              replace kn := hideit kn
              refine wp_region_lit ?_
              refine wpList_run rfl (u10) (by simp [go_sem]) ?_
              simp only [Act.put, List.setIfInBounds_toArray, List.set_cons_zero, List.set_cons_succ]
              refine wpList_run rfl (.int .i64 (q : Int)) (by simp [go_sem]) ?_
              simp only [Act.put, List.setIfInBounds_toArray, List.set_cons_zero, List.set_cons_succ]
              refine wpList_run rfl (.slice (some ⟨b, 0, none⟩) 512 512) (by simp [go_sem]) ?_
              simp only [Act.put, List.setIfInBounds_toArray, List.set_cons_zero, List.set_cons_succ]
              refine wpList_call rfl (by simp [go_sem]) ((kn.out).mono ?_)
              rintro e w18 ⟨rfl, hX18⟩
              refine ⟨_, rfl, ?_⟩
              simp only [Act.put, List.setIfInBounds_toArray, List.set_cons_zero, List.set_cons_succ]
              have hXa : Ext w18 (w18.alloc (.cells (row 32 (yv G)).toArray 25)) := (Below.refl _ _).alloc (Nat.le_refl _) _
              have Ca := (RowAt.new w18 32 (yv G) 25).lie 32 (Nat.le_refl _)
              refine wpList_to rfl (.slice (some ⟨w18.heap.size, 0, none⟩) 1 1) (w18.alloc (.cells (row 32 (yv G)).toArray 25)) (by rw [show row 32 (yv G) = [yv G 0, yv G 1, yv G 2, yv G 3, yv G 4, yv G 5, yv G 6, yv G 7, yv G 8, yv G 9, yv G 10, yv G 11, yv G 12, yv G 13, yv G 14, yv G 15, yv G 16, yv G 17, yv G 18, yv G 19, yv G 20, yv G 21, yv G 22, yv G 23, yv G 24, yv G 25, yv G 26, yv G 27, yv G 28, yv G 29, yv G 30, yv G 31] from rfl]; simp [go_sem]) ?_
              simp only [Act.put, List.setIfInBounds_toArray, List.set_cons_zero, List.set_cons_succ]
              have hXb := Ext.trans hX18 hXa
              have O6 := hideit (hO'.out.ext hXb)
              have E6 := hideit (Ext.trans E5.out hXb)
              have X6 := hideit (X5.out.ext hXb)
              have D6 := hideit (fun z hz => And.intro ((D5.out z hz).1.carry hXb) ((D5.out z hz).2.ext hXb))
              have R6 := hideit (R5.out.carry hXb)
              have T6 := hideit (T5.out.ext hXb)
              generalize w18.alloc (.cells (row 32 (yv G)).toArray 25) = w19 at *
              generalize w18.heap.size = gb at *
              clear hO' E5 X5 D5 R5 T5 hX18 hXa hXb kn
              refine wpList_growK (n := i) (base := W0.heap.size) elem22K (by decide) rfl (.tmp 74) (.tmp 78) rfl rfl X6.out ⟨gb, 0, none⟩ 1 1 (yv G) (lfV (dgV (BitVec.ofNat 8 q) fun z => nodeC (digB n d q) (lcP n q) z)) rfl Ca (fun _ _ => rfl) (fun _ _ => rfl) (fun z hz => by
                rw [lf_row _ _ _ (by omega), hG.out]
                rfl) (by omega) (by omega) (Below.size E6.out) ?_
              intro x' Y2 hX' hg2
              have ne1 : ∀ z, NT z w19 → some z ≠ u10.ownBlock := fun z hz => ownK_nt X6.out hz
              have H7 : RL W0 (i + 1) (nodeC (digB n d q) (lcP n q)) (dgV (BitVec.ofNat 8 q) fun z => nodeC (digB n d q) (lcP n q) z) v' x' (fun z => if z = i then b else nb z) Y2 := by
                refine ⟨Below.trans E6.out (below_grown (Below.size E6.out) hg2 fun k hk => (X6.out.lt k hk).1), O6.out.kept hg2 ?_, fun h => absurd h (by omega), hX', fun h => absurd h (by omega), fun z hz => ?_⟩
                · right
                  rcases (by omega : i = 0 ∨ 0 < i) with h0 | h0
                  · rw [Z5.out h0]
                    obtain ⟨vb, vc, hv', _, _, _, _⟩ := O6.out.lies (by omega)
                    rw [hv']
                    intro h
                    cases h
                  · obtain ⟨b', c', e', _, _, _, hR'⟩ := X6.out.lies h0
                    have h9 := own_ne O6.out (fun h => absurd h (by omega)) hR' (by omega) (fun e => by cases e)
                    rw [e']
                    exact fun h => h9 h.symm
                · by_cases hz2 : z = i
                  · subst hz2
                    simp only [if_true]
                    exact ⟨hbW, R6.out.grown hg2 (ne1 b T6.out), T6.out.grown hg2 (ne1 b T6.out)⟩
                  · simp only [hz2, if_false]
                    have hd := D6.out z (by omega)
                    exact ⟨S5.out z (by omega), hd.1.grown hg2 (ne1 _ hd.2), hd.2.grown hg2 (ne1 _ hd.2)⟩
              replace H7 := hideit H7
              clear O6 E6 X6 D6 R6 T6 S5 Z5 ne1 hX' hg2 Ca
              simp only [Act.put, List.setIfInBounds_toArray, List.set_cons_zero, List.set_cons_succ]
              go_wp2
              exact ⟨⟨i + 1, _, by omega, by go_num, H7.out⟩, by simp [intOf]; omega⟩
        · obtain rfl : i = cnt := by omega
          have i1 : ¬ (i : Int) < (i : Int) := by omega
          obtain ⟨vb, vc, hu9, hvb, hvc, -, hVR⟩ := hL.out.own.lies (by omega)
          obtain ⟨xb, xc, hu10, -, -, -, -⟩ := hL.out.nxt.lies (by omega)
          subst hu9
          subst hu10
          have HB2 := HB.out.carry hL.out.ext
          have hw0 : w.heap.size < W0.heap.size := HB.out.res.2.2
          have Lq : Lv (w.heap.size + 1) (.slice (some ⟨vb, 0, none⟩) i vc) i (nodeB n d q) wr := ⟨vb, vc, nb, rfl, hvc, by omega, by omega, hVR, fun z hz => (hL.out.nodes z hz).2.1, by omega, fun z hz => by have := (hL.out.nodes z hz).1; omega⟩
          have Xq := hL.out.nxt
          have hX5 : Ext wr (wr.alloc (.cells #[.slice (some ⟨vb, 0, none⟩) i vc] 33)) := (Below.refl _ _).alloc (Nat.le_refl _) _
          have hN5 := hideit (lie_us wr 1 #[.slice (some ⟨vb, 0, none⟩) i vc] (fun _ => .slice (some ⟨vb, 0, none⟩) i vc) (fun j hj => by
            have : j = 0 := by omega
            subst this
            rfl) 33)
          have HB3 := hideit (HB2.carry hX5)
          have Lq3 := hideit (Lq.ext hX5)
          have Xq3 := hideit (Xq.ext hX5)
          clear HB2 Lq Xq hL hVR
          go_upto_region 24 with (fail)
          refine wp_region_lit ?_
          refine wpList_run rfl (u6) (by simp [go_sem]) ?_
          simp only [Act.put, List.setIfInBounds_toArray, List.set_cons_zero, List.set_cons_succ]
          refine wpList_run rfl (.slice (some ⟨vb, 0, none⟩) i vc) (by simp [go_sem]) ?_
          simp only [Act.put, List.setIfInBounds_toArray, List.set_cons_zero, List.set_cons_succ]
          refine wpList_to rfl (.slice (some ⟨wr.heap.size, 0, none⟩) 1 1) (wr.alloc (.cells #[.slice (some ⟨vb, 0, none⟩) i vc] 33)) (by simp [go_sem]) ?_
          simp only [Act.put, List.setIfInBounds_toArray, List.set_cons_zero, List.set_cons_succ]
          generalize wr.alloc (.cells #[.slice (some ⟨vb, 0, none⟩) i vc] 33) = w16a at *
          generalize wr.heap.size = ab at *
          have hs16 : w.heap.size + 1 ≤ w16a.heap.size := by have := HB3.out.res.2.2; omega
          refine wpList_growE (n := q) (base := w.heap.size + 1) elem24 rfl (.tmp 80) (.tmp 82) rfl rfl HB3.out.own ⟨ab, 0, none⟩ 1 1 (fun _ => .slice (some ⟨vb, 0, none⟩) i vc) (fun z => if z = q then .slice (some ⟨vb, 0, none⟩) i vc else lvs z) rfl hN5.out (fun _ _ => rfl) (fun z hz => by
            simp only [show ¬ z = q by omega, if_false]) (fun z hz => by
            rw [show z = 0 by omega]
            simp only [Nat.add_zero, if_true]) (by omega) (by omega) hs16 ?_
          intro v' Y hO' hg'
          rw [hcnt] at Lq3 Xq3
          have HB4 := HB3.out.grow Lq3.out Xq3.out (by omega) hg' (by rw [hcnt] at hO'; exact hO')
          rw [← hcnt] at HB4
          replace HB4 := hideit HB4
          clear HB3 Lq3 Xq3 hO' hg' hN5 hX5 hs16
          simp only [Act.put, List.setIfInBounds_toArray, List.set_cons_zero, List.set_cons_succ]
          go_wp2
          exact ⟨⟨q + 1, _, by omega, by go_num, HB4.out⟩, by simp [intOf]; omega⟩
    · obtain rfl : q = N := by omega
      have q1 : ¬ (q : Int) < (q : Int) := by omega
      obtain ⟨t, hqt⟩ : ∃ t, q = t + 1 := ⟨q - 1, by omega⟩
      obtain ⟨vb, vc, hu6, -, -, -, hVR⟩ := HB.out.own.lies (by omega)
      subst hu6
      obtain ⟨B, bc, nb, hlt, -, -, hB0, hBR, hBn, -⟩ := HB.out.levs t (by omega)
      have c1 := hVR.1 t (by omega)
      rw [hlt] at c1
      have c2 : wr.cell? ⟨B, 0, none⟩ = some (.slice (some ⟨nb 0, 0, none⟩) 512 512) := hBR.1 0 hB0
      have kt := rtop_any n (t : Int) (BitVec.ofNat 8 t) (by rw [BitVec.toNat_ofNat]; omega) (.slice (some ⟨nb 0, 0, none⟩) 512 512) (nodeB n d t 0) wr (.inr ⟨_, 512, rfl, Nat.le_refl _, (hBn 0 hB0).lie 512 (Nat.le_refl _)⟩)
      obtain ⟨R, hR⟩ : ∃ R, R = rootF n (digB n d q 0) := ⟨_, rfl⟩
      rw [show rootF n (nodeF (BitVec.ofNat 8 t) (nodeB n d t 0) 512) = R by rw [hR, hqt]; rfl] at kt
      have hw : IntKind.i64.wrap ((q : Int) - 1) = (t : Int) := by rw [IntKind.wrap_i64]; omega
      have t1 : (t : Int) < (q : Int) := by omega
      have z1 : ¬ lc n t = 0 := by omega
      replace kt := hideit kt
      replace hw := hideit hw
      replace hR := hideit hR
      replace hqt := hideit hqt
      clear hVR hBR hBn hlt
      go_upto_region 26 with (fail)
      refine wp_region_lit ?_
      refine wpList_run rfl (.slice (some ⟨vb, 0, none⟩) q vc) (by simp [go_sem]) ?_
      simp only [Act.put, List.setIfInBounds_toArray, List.set_cons_zero, List.set_cons_succ]
      refine wpList_run rfl (.slice ov n cap) (by simp [go_sem]) ?_
      simp only [Act.put, List.setIfInBounds_toArray, List.set_cons_zero, List.set_cons_succ]
      refine wpList_run rfl (.int .i64 (n : Int)) (by simp [go_sem]) ?_
      simp only [Act.put, List.setIfInBounds_toArray, List.set_cons_zero, List.set_cons_succ]
      refine wpList_run rfl (.slice (some ⟨cb, 0, none⟩) q cc) (by simp [go_sem]) ?_
      simp only [Act.put, List.setIfInBounds_toArray, List.set_cons_zero, List.set_cons_succ]
      refine wpList_run rfl (.int .i64 (q : Int)) (by simp [go_sem]) ?_
      simp only [Act.put, List.setIfInBounds_toArray, List.set_cons_zero, List.set_cons_succ]
      refine wpList_run rfl (.int .i64 (t : Int)) (by simp [go_sem, hw.out]) ?_
      simp only [Act.put, List.setIfInBounds_toArray, List.set_cons_zero, List.set_cons_succ]
      refine wpList_run rfl (.slice (some ⟨vb, 0, none⟩) q vc) (by simp [go_sem]) ?_
      simp only [Act.put, List.setIfInBounds_toArray, List.set_cons_zero, List.set_cons_succ]
      refine wpList_run rfl (.slice (some ⟨vb, 0, none⟩) q vc) (by simp [go_sem]) ?_
      simp only [Act.put, List.setIfInBounds_toArray, List.set_cons_zero, List.set_cons_succ]
      refine wpList_run rfl (.int .i64 (q : Int)) (by simp [go_sem]) ?_
      simp only [Act.put, List.setIfInBounds_toArray, List.set_cons_zero, List.set_cons_succ]
      refine wpList_run rfl (.int .i64 (t : Int)) (by simp [go_sem, hw.out]) ?_
      simp only [Act.put, List.setIfInBounds_toArray, List.set_cons_zero, List.set_cons_succ]
      refine wpList_run rfl (.pointer (some ⟨vb, t, none⟩)) (by simp [go_sem, t1]) ?_
      simp only [Act.put, List.setIfInBounds_toArray, List.set_cons_zero, List.set_cons_succ]
      refine wpList_run rfl (.slice (some ⟨B, 0, none⟩) (lc n t) bc) (by simp [go_sem, c1]) ?_
      simp only [Act.put, List.setIfInBounds_toArray, List.set_cons_zero, List.set_cons_succ]
      refine wpList_run rfl (.pointer (some ⟨B, 0, none⟩)) (by simp [go_sem, z1]) ?_
      simp only [Act.put, List.setIfInBounds_toArray, List.set_cons_zero, List.set_cons_succ]
      refine wpList_run rfl (.slice (some ⟨nb 0, 0, none⟩) 512 512) (by simp [go_sem, c2]) ?_
      simp only [Act.put, List.setIfInBounds_toArray, List.set_cons_zero, List.set_cons_succ]
      refine wpList_call rfl (by simp [go_sem]) ((kt.out).mono ?_)
      rintro e w20 ⟨rfl, hX20⟩
      refine ⟨_, rfl, ?_⟩
      simp only [Act.put, List.setIfInBounds_toArray, List.set_cons_zero, List.set_cons_succ]
      refine wpList_run rfl (.slice (some ⟨vb, 0, none⟩) q vc) (by simp [go_sem]) ?_
      simp only [Act.put, List.setIfInBounds_toArray, List.set_cons_zero, List.set_cons_succ]
      have HB2 := HB.out.carry hX20
      refine wpList_store_mid rfl 25 (.tmp 3) (.tmp 99) rfl _ 0 (row 32 (yv R)).toArray rfl rfl (by rw [row_size]; exact HB2.res.there) (by rw [row_size]; exact info24) (row_one fun _ _ => rfl) ?_
      rw [show (row 32 (yv R)).toArray.toList = row 32 (yv R) from rfl]
      have hBt := But.sets (c := w.heap.size) (row 32 (yv R)) 0 w20 (But.refl _ _)
      have res8 := hideit (HB2.res.cells (g' := yv R))
      have E8 := hideit (below_setCells (w := w) w.heap.size (Nat.le_refl _) (row 32 (yv R)) 0 w20 HB2.ext)
      have O8 := hideit (HB2.own.but hBt (fun e => by have h9 := (HB2.own.lt _ e).1; omega))
      have L8 := HB2.levs
      generalize w20.setCells w.heap.size 0 (row 32 (yv R)) = w21 at *
      simp only [Act.put]
      go_wp2
      exact bodyPost_ret (ret_row3 Tryd.results10 rfl res8.out Tryd.underlying25 rfl info24) rfl ⟨_, by rw [← hR.out]; rfl, lvs, O8.out.down (by omega), fun j hj => (L8 j hj).but hBt (by omega), E8.out⟩
end Go.Proofs.YtapmheocllicnaaDoor

namespace Go.Proofs.YtapmheocllicnaaDoor
open Go.RowKit Go.BigFrame
set_option maxRecDepth 20000 in
set_option maxHeartbeats 2000000 in
theorem rbuild_no (n : Nat) (hn : n < 1 ∨ 4096 < n) (v : Value) (d : Nat → Nat → BitVec 8) (w : World) (hL : LV v n d w) :
    Calls Tryd.prog 10 #[v] w fun e w' => e = .returned (.tuple #[.slice none 0 0, .agg (row 32 (yv fun _ => 0#8)).toArray, .int .i64 1]) ∧ Ext w w' := by
  obtain ⟨ov, cap, rfl⟩ := hL.form
  have hz := zero24
  have HR0 := hideit (RowAt.new w 32 (yv fun _ => 0#8) 25)
  have HE0 : Ext w (w.alloc (.cells (row 32 (yv fun _ => 0#8)).toArray 25)) := (Below.refl _ _).alloc (Nat.le_refl _) _
  have kl := hideit (rlevels_no (n : Int) (by omega) (w.alloc (.cells (row 32 (yv fun _ => 0#8)).toArray 25)))
  replace HE0 := hideit HE0
  clear hL hn
  go_enter Tryd.func10, Tryd.ntmps10
  go_upto_region 1 with (fail)
  generalize w.alloc (.cells (row 32 (yv fun _ => 0#8)).toArray 25) = w1 at *
  go_upto_region 3 with (go_at_call 18; refine kl.out.mono ?_; rintro e w9 ⟨rfl, hw9⟩; rw [hw9]; clear hw9)
  refine wp_region_lit ?_
  refine wpList_build rfl 25 [] rfl (.agg (row 32 (yv fun _ => 0#8)).toArray) (build25 _) ?_
  simp only [Act.put, List.setIfInBounds_toArray, List.set_cons_zero, List.set_cons_succ]
  refine wpList_run rfl (.slice none 0 0) (by simp [go_sem]) ?_
  simp only [Act.put, List.setIfInBounds_toArray, List.set_cons_zero, List.set_cons_succ]
  refine wpList_store_mid rfl 25 (.tmp 3) (.tmp 21) rfl _ 0 (row 32 (yv fun _ => 0#8)).toArray rfl rfl (by rw [row_size]; exact HR0.out.there) (by rw [row_size]; exact info24) (row_one fun _ _ => rfl) ?_
  have res8 := hideit (HR0.out.cells (g' := yv fun _ => 0#8))
  have hE8 := hideit (below_setCells w.heap.size (Nat.le_refl _) (row 32 (yv fun _ => 0#8)) 0 w1 HE0.out)
  rw [show (row 32 (yv fun _ => 0#8)).toArray.toList = row 32 (yv fun _ => 0#8) from rfl]
  generalize w1.setCells w.heap.size 0 (row 32 (yv fun _ => 0#8)) = w8 at *
  clear HR0 HE0
  simp only [Act.put]
  go_wp2
  exact bodyPost_ret (ret_row3 Tryd.results10 rfl res8.out Tryd.underlying25 rfl info24) rfl ⟨rfl, hE8.out⟩
end Go.Proofs.YtapmheocllicnaaDoor

namespace Go.Proofs.YtapmheocllicnaaDoor
open Go.RowKit Go.BigFrame
/-- how many levels a tree of so many leaves has; none, if there is no such tree -/
def kB (n : Nat) : Nat := if 1 ≤ n ∧ n ≤ 4096 then lvN n else 0
/-- .. its root -/
def rB (n : Nat) (d : Nat → Nat → BitVec 8) : Nat → BitVec 8 := if 1 ≤ n ∧ n ≤ 4096 then rootF n (digB n d (lvN n) 0) else fun _ => 0#8
/-- .. what is told -/
def zB (n : Nat) : Int := if 1 ≤ n ∧ n ≤ 4096 then 0 else 1
theorem kB_le (n : Nat) : kB n ≤ 3 := by
  unfold kB
  have := lvN_pos n
  split <;> omega
/-- a list that may be nil -/
def LA (v : Value) (k : Nat) (vs : Nat → Value) (W : World) : Prop := (v = .slice none 0 0 ∧ k = 0) ∨ ∃ b cap, v = .slice (some ⟨b, 0, none⟩) k cap ∧ k ≤ cap ∧ RowAt b k vs W
theorem LA.ext {v : Value} {k : Nat} {vs : Nat → Value} {W Y : World} (h : LA v k vs W) (e : Ext W Y) : LA v k vs Y := by
  rcases h with h | ⟨b, cap, h1, h2, h3⟩
  · exact .inl h
  · exact .inr ⟨b, cap, h1, h2, h3.carry e⟩
theorem LA.form {v : Value} {k : Nat} {vs : Nat → Value} {W : World} (h : LA v k vs W) : ∃ o cap, v = .slice o k cap := by
  rcases h with ⟨rfl, rfl⟩ | ⟨b, cap, rfl, _⟩
  · exact ⟨_, _, rfl⟩
  · exact ⟨_, _, rfl⟩
theorem LA.row {o : Option Addr} {k cap : Nat} {vs : Nat → Value} {W : World} (h : LA (.slice o k cap) k vs W) (hk : 0 < k) : ∃ b, o = some ⟨b, 0, none⟩ ∧ RowAt b k vs W := by
  rcases h with ⟨h1, h2⟩ | ⟨b, c, h1, h2, h3⟩
  · omega
  · injection h1 with h4 h5 h6
    exact ⟨b, h4, h3⟩
theorem OwnB.la {base : Nat} {e : TypeId} {v : Value} {k : Nat} {vs : Nat → Value} {W : World} (h : OwnB base e v k vs W) (hk : 0 < k) : LA v k vs W := by
  obtain ⟨b, cap, rfl, _, h2, _, h3⟩ := h.lies hk
  exact .inr ⟨b, cap, rfl, h2, h3⟩
/-- all levels of a tree, in memory -/
def Levs (v : Value) (k n : Nat) (d : Nat → Nat → BitVec 8) (vs : Nat → Value) (W : World) : Prop := LA v k vs W ∧ ∀ j, j < k → ∃ us, Parts (vs j) (lc n j) us (fun _ => 512) (nodeB n d j) W
theorem Levs.ext {v : Value} {k n : Nat} {d : Nat → Nat → BitVec 8} {vs : Nat → Value} {W Y : World} (h : Levs v k n d vs W) (e : Ext W Y) : Levs v k n d vs Y :=
  ⟨h.1.ext e, fun j hj => (h.2 j hj).elim fun us hu => ⟨us, hu.ext e⟩⟩
theorem tbuild_all (n : Nat) (v : Value) (d : Nat → Nat → BitVec 8) (w : World) (hL : LV v n d w) (hC : TabC w) :
    Calls Tryd.prog 9 #[v] w fun e w' => ∃ lv vs, e = .returned (.tuple #[lv, .agg (row 32 (yv (rB n d))).toArray, .int .i64 (zB n)]) ∧ Levs lv (kB n) n d vs w' ∧ Ext w w' := by
  by_cases h : 1 ≤ n ∧ n ≤ 4096
  · have hN := lvN_pos n
    refine (build_any n h.1 h.2 v d w hL hC).mono ?_
    rintro e w' ⟨lv, Bs, rfl, hO, hl, hE⟩
    refine ⟨lv, lvV n Bs, ?_, ⟨?_, fun j hj => ?_⟩, hE⟩
    · unfold rB zB
      rw [if_pos h, if_pos h]
    · unfold kB
      rw [if_pos h]
      exact hO.la (by omega)
    · unfold kB at hj
      rw [if_pos h] at hj
      exact ⟨_, (hl j hj).2.parts⟩
  · refine (build_no n (by omega) v d w hL).mono ?_
    rintro e w' ⟨rfl, hE⟩
    refine ⟨_, fun _ => .slice none 0 0, ?_, ⟨.inl ⟨rfl, by unfold kB; rw [if_neg h]⟩, fun j hj => ?_⟩, hE⟩
    · unfold rB zB
      rw [if_neg h, if_neg h]
    · unfold kB at hj
      rw [if_neg h] at hj
      omega
theorem rbuild_all (n : Nat) (v : Value) (d : Nat → Nat → BitVec 8) (w : World) (hL : LV v n d w) :
    Calls Tryd.prog 10 #[v] w fun e w' => ∃ lv vs, e = .returned (.tuple #[lv, .agg (row 32 (yv (rB n d))).toArray, .int .i64 (zB n)]) ∧ Levs lv (kB n) n d vs w' ∧ Ext w w' := by
  by_cases h : 1 ≤ n ∧ n ≤ 4096
  · have hN := lvN_pos n
    refine (rbuild_any n h.1 h.2 v d w hL).mono ?_
    rintro e w' ⟨lv, vs, rfl, hO, hl, hE⟩
    refine ⟨lv, vs, ?_, ⟨?_, fun j hj => ?_⟩, hE⟩
    · unfold rB zB
      rw [if_pos h, if_pos h]
    · unfold kB
      rw [if_pos h]
      exact hO.la (by omega)
    · unfold kB at hj
      rw [if_pos h] at hj
      exact (hl j hj).parts
  · refine (rbuild_no n (by omega) v d w hL).mono ?_
    rintro e w' ⟨rfl, hE⟩
    refine ⟨_, fun _ => .slice none 0 0, ?_, ⟨.inl ⟨rfl, by unfold kB; rw [if_neg h]⟩, fun j hj => ?_⟩, hE⟩
    · unfold rB zB
      rw [if_neg h, if_neg h]
    · unfold kB at hj
      rw [if_neg h] at hj
      omega
/-- how many levels, of any number -/
def kLn (n : Int) : Nat := if 1 ≤ n ∧ n ≤ 4096 then lvN n.toNat else 0
theorem kLn_le (n : Int) : kLn n ≤ 3 := by
  unfold kLn
  have := lvN_pos n.toNat
  split <;> omega
theorem tlevels_all (n : Int) (w : World) : Calls Tryd.prog 17 #[.int .i64 n] w fun e w' => ∃ v, e = .returned v ∧ LA v (kLn n) (lcV n.toNat) w' ∧ Ext w w' := by
  by_cases h : 1 ≤ n ∧ n ≤ 4096
  · obtain ⟨m, rfl⟩ : ∃ m : Nat, n = (m : Int) := ⟨n.toNat, by omega⟩
    have hN := lvN_pos m
    refine (levels_any m w (by omega) (by omega)).mono ?_
    rintro e w' ⟨v, rfl, hO, hE⟩
    refine ⟨v, rfl, ?_, hE⟩
    unfold kLn
    rw [if_pos h, Int.toNat_natCast]
    exact hO.la (by omega)
  · refine (levels_no n (by omega) w).mono ?_
    rintro e w' ⟨rfl, rfl⟩
    exact ⟨_, rfl, .inl ⟨rfl, by unfold kLn; rw [if_neg h]⟩, Ext.refl _⟩
theorem rlevels_all (n : Int) (w : World) : Calls Tryd.prog 18 #[.int .i64 n] w fun e w' => ∃ v, e = .returned v ∧ LA v (kLn n) (lcV n.toNat) w' ∧ Ext w w' := by
  by_cases h : 1 ≤ n ∧ n ≤ 4096
  · obtain ⟨m, rfl⟩ : ∃ m : Nat, n = (m : Int) := ⟨n.toNat, by omega⟩
    have hN := lvN_pos m
    refine (rlevels_any m w (by omega) (by omega)).mono ?_
    rintro e w' ⟨v, rfl, hO, hE⟩
    refine ⟨v, rfl, ?_, hE⟩
    unfold kLn
    rw [if_pos h, Int.toNat_natCast]
    exact hO.la (by omega)
  · refine (rlevels_no n (by omega) w).mono ?_
    rintro e w' ⟨rfl, rfl⟩
    exact ⟨_, rfl, .inl ⟨rfl, by unfold kLn; rw [if_neg h]⟩, Ext.refl _⟩
end Go.Proofs.YtapmheocllicnaaDoor
