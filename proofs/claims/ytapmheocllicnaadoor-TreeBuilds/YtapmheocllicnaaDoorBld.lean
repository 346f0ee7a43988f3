/-
  The tree of leaves: its nodes, level by level, and its root.
-/
import Derived.Test.YtapmheocllicnaaDoorDgs
import Derived.Test.YtapmheocllicnaaDoorOwnS
namespace Go.Proofs.YtapmheocllicnaaDoor
open Go.RowKit Go.BigFrame
/-- how many children a level has -/
def lcP (n : Nat) : Nat → Nat
  | 0 => n
  | q + 1 => lc n q
/-- the digests that a level's nodes hold -/
def digB (n : Nat) (d : Nat → Nat → BitVec 8) : Nat → Nat → Nat → BitVec 8
  | 0 => d
  | q + 1 => dgV (BitVec.ofNat 8 q) fun i => nodeC (digB n d q) (lcP n q) i
/-- a level's nodes -/
def nodeB (n : Nat) (d : Nat → Nat → BitVec 8) (q i : Nat) : Nat → BitVec 8 := nodeC (digB n d q) (lcP n q) i
structure LevAt (B cnt : Nat) (f : Nat → Nat → BitVec 8) (W : World) : Prop where
  list : RowAt B cnt (ndV B) W
  each : ∀ i, i < cnt → RowAt (B + 1 + i) 512 (yv (f i)) W
theorem LevAt.carry {B cnt : Nat} {f : Nat → Nat → BitVec 8} {W Y : World} (h : LevAt B cnt f W) (k : Ext W Y) : LevAt B cnt f Y := ⟨h.list.carry k, fun i hi => (h.each i hi).carry k⟩
theorem LevAt.parts {B cnt : Nat} {f : Nat → Nat → BitVec 8} {W : World} (h : LevAt B cnt f W) : Parts (.slice (some ⟨B, 0, none⟩) cnt cnt) cnt (ndV B) (fun _ => 512) f W :=
  ⟨.inr ⟨_, cnt, rfl, Nat.le_refl _, h.list.lie cnt (Nat.le_refl _)⟩, fun i hi => (h.each i hi).bv 512 (Nat.le_refl _)⟩
def lvV (n : Nat) (Bs : Nat → Nat) (j : Nat) : Value := .slice (some ⟨Bs j, 0, none⟩) (lc n j) (lc n j)
theorem own_ne {base : Nat} {e : TypeId} {v : Value} {n : Nat} {g : Nat → Value} {w : World} (hO : OwnB base e v n g w) (h0 : n = 0 → v = .slice none 0 0) {b m : Nat} {h : Nat → Value} (hR : RowAt b m h w) (hm : 0 < m) (hne : g 0 ≠ h 0) : some b ≠ v.ownBlock := by
  rcases (by omega : n = 0 ∨ 0 < n) with hn | hn
  · rw [h0 hn]
    intro h
    cases h
  · obtain ⟨k, cap, rfl, _, _, _, hr⟩ := hO.lies hn
    intro h
    injection h with h
    subst h
    have h1 := hr.1 0 hn
    rw [hR.1 0 hm] at h1
    injection h1 with h1
    exact hne h1.symm
theorem elem24 : ElemB Tryd.prog 24 33 24 := elem_b Tryd.underlying24 (by kernel_rfl) (by kernel_rfl) (by kernel_rfl)
/-- how a Build stands on its way -/
structure BT (w : World) (n N cb : Nat) (d : Nat → Nat → BitVec 8) (v0 : Value) (Bs : Nat → Nat) (q : Nat) (lv cv : Value) (W : World) : Prop where
  ext : Ext w W
  own : OwnB (w.heap.size + 1) 33 lv q (lvV n Bs) W
  nil : q = 0 → lv = .slice none 0 0
  levs : ∀ j, j < q → w.heap.size ≤ Bs j ∧ LevAt (Bs j) (lc n j) (nodeB n d j) W
  cnts : RowAt cb N (lcV n) W
  res : RowAt w.heap.size 32 (yv fun _ => 0#8) W
  kids : (q = 0 ∧ cv = v0) ∨ (0 < q ∧ ∃ kb, cv = .slice (some ⟨kb, 0, none⟩) (lcP n q) (lcP n q) ∧ RowAt kb (lcP n q * 32) (lfV (digB n d q)) W)
theorem bld_lv (n : Nat) (h1 : 1 ≤ n) (h2 : n ≤ 4096) (q : Nat) (hq : q < lvN n) : 1 ≤ lc n q ∧ lc n q ≤ 256 ∧ lcP n q ≤ 16 * lc n q ∧ 1 ≤ lcP n q := by
  have h := lv_cases (c := q + 1) h1 h2 (by omega) (by omega)
  rw [Nat.add_sub_cancel] at h
  refine ⟨h.2.1, h.2.2, ?_, ?_⟩
  · cases q with
    | zero => simp only [lcP, lc]; omega
    | succ q => simp only [lcP, lc]; omega
  · cases q with
    | zero => exact h1
    | succ q =>
      have h := lv_cases (c := q + 1) h1 h2 (by omega) (by omega)
      rw [Nat.add_sub_cancel] at h
      exact h.2.1
theorem bld_top (n : Nat) (h1 : 1 ≤ n) (h2 : n ≤ 4096) : lcP n (lvN n) = 1 := by
  have hN := lvN_pos n
  obtain ⟨q, hq⟩ : ∃ q, lvN n = q + 1 := ⟨lvN n - 1, by omega⟩
  have h := lv_cases (c := q + 1) h1 h2 (by omega) (by omega)
  rw [Nat.add_sub_cancel] at h
  rw [hq]
  show lc n q = 1
  have : ¬ 1 < lc n q := fun h' => by have := h.1.1 h'; omega
  omega
theorem ret_row3 {P : Program} {F : Func} {tmps : Array Value} {k k1 k2 : Nat} {t : TypeId} {b n : Nat} {g : Nat → Value} {X : World} {d : TypeDesc} (hF : F.results = #[.tmp k1, .cell k t, .tmp k2]) (ht : tmps.getD k undef = .pointer (some ⟨b, 0, none⟩)) (h : RowAt b n g X)
    (hu : P.underlying t = some d) (hd : d.isRow = true) (hi : (P.info? t).map (·.size) = some n) : Sem.run P (results F tmps) X = .ok (.tuple #[tmps.getD k1 undef, .agg (row n g).toArray, tmps.getD k2 undef]) X := by
  have hl := run_loadVar_mid (P := P) X b 0 t (row n g) d h.range hu hd (by rw [row_length]; exact hi)
  unfold results
  rw [hF]
  simp only [List.mapM_toArray, List.mapM_cons, List.mapM_nil, ht]
  simp [asAddr, hl]
theorem build25 (w : World) : (Instr.build 25 #[]).run Tryd.prog w = .ok (.agg (row 32 (yv fun _ => 0#8)).toArray) w := run_build w 25 #[] _ (by kernel_rfl)
set_option maxRecDepth 20000 in
set_option maxHeartbeats 4000000 in
theorem build_any (n : Nat) (h1 : 1 ≤ n) (h2 : n ≤ 4096) (v : Value) (d : Nat → Nat → BitVec 8) (w : World) (hL : LV v n d w) (hC : TabC w) :
    Calls Tryd.prog 9 #[v] w fun e w' => ∃ lv Bs, e = .returned (.tuple #[lv, .agg (row 32 (yv (rootF n (digB n d (lvN n) 0)))).toArray, .int .i64 0]) ∧ OwnB w.heap.size 33 lv (lvN n) (lvV n Bs) w' ∧ (∀ j, j < lvN n → w.heap.size ≤ Bs j ∧ LevAt (Bs j) (lc n j) (nodeB n d j) w') ∧ Ext w w' := by
  obtain ⟨ov, cap, rfl⟩ := hL.form
  have hlvl := bld_lv n h1 h2
  have htop := bld_top n h1 h2
  have hN := lvN_pos n
  have hz := zero24
  have HR0 := hideit (RowAt.new w 32 (yv fun _ => 0#8) 25)
  have HE0 : Ext w (w.alloc (.cells (row 32 (yv fun _ => 0#8)).toArray 25)) := (Below.refl _ _).alloc (Nat.le_refl _) _
  have kl := hideit (levels_any n (w.alloc (.cells (row 32 (yv fun _ => 0#8)).toArray 25)) h1 h2)
  obtain ⟨N, hNN⟩ : ∃ N, N = lvN n := ⟨_, rfl⟩
  rw [← hNN] at hlvl htop hN kl ⊢
  replace HE0 := hideit HE0
  replace hL := hideit hL
  replace hC := hideit hC
  replace hlvl := hideit hlvl
  replace htop := hideit htop
  clear hNN
  go_enter Tryd.func9, Tryd.ntmps9
  go_upto_region 1 with (fail)
  have hs1 : (w.alloc (.cells (row 32 (yv fun _ => 0#8)).toArray 25)).heap.size = w.heap.size + 1 := by simp
  rw [hs1] at kl
  generalize w.alloc (.cells (row 32 (yv fun _ => 0#8)).toArray 25) = w1 at *
  refine wp_region_lit ?_
  refine wpList_run rfl (.slice ov n cap) (by simp [go_sem]) ?_
  simp only [Act.put, List.setIfInBounds_toArray, List.set_cons_zero, List.set_cons_succ]
  refine wpList_run rfl (.int .i64 (n : Int)) (by simp [go_sem]) ?_
  simp only [Act.put, List.setIfInBounds_toArray, List.set_cons_zero, List.set_cons_succ]
  refine wpList_call rfl (by simp [go_sem]) (kl.out.mono ?_)
  rintro e w2 ⟨v1, rfl, hO, hE⟩
  refine ⟨_, rfl, ?_⟩
  simp only [Act.put, List.setIfInBounds_toArray, List.set_cons_zero, List.set_cons_succ]
  obtain ⟨cb, ccap, rfl, -, -, -, hcb⟩ := hO.lies (by omega)
  have HB0 : BT w n N cb d (.slice ov n cap) (fun _ => 0) 0 (.slice none 0 0) (.slice ov n cap) w2 := ⟨Ext.trans HE0.out hE, own_nil _ _ _ _, fun _ => rfl, fun j hj => absurd hj (by omega), hcb, HR0.out.carry hE, .inl ⟨rfl, rfl⟩⟩
  replace HB0 := hideit HB0
  clear hO hE hcb kl HR0 HE0
  have n0 : ¬ ((N : Nat) : Int) = 0 := by omega
  have n0' : (((N : Nat) : Int) == 0) = false := by simp; omega
  go_wp2
  go_loopw [21, 6, 7] (fun iv lv cv X => ∃ (q : Nat) (Bs : Nat → Nat), q ≤ N ∧ iv = .int .i64 (q : Int) ∧ BT w n N cb d (.slice ov n cap) Bs q lv cv X) (fun iv _ _ _ => N - (intOf iv).toNat)
  case atStart => exact ⟨0, _, Nat.zero_le _, rfl, HB0.out⟩
  case round =>
    clear HB0
    obtain ⟨q, Bs, hq, rfl, hB⟩ := hrel
    replace hB := hideit hB
    by_cases hlt : q < N
    · have q0 : (0 : Int) ≤ (q : Int) := by omega
      have q1 : (q : Int) < (N : Int) := by omega
      obtain ⟨c1, c2, c3, c4⟩ := hlvl.out q hlt
      obtain ⟨cnt, hcnt⟩ : ∃ cnt, cnt = lc n q := ⟨_, rfl⟩
      have ecnt := hB.out.cnts.1 q hlt
      rw [show lcV n q = .int .i64 (cnt : Int) by rw [hcnt]; rfl] at ecnt
      rw [← hcnt] at c1 c2 c3
      replace hcnt := hideit hcnt
      have hkids : LV u7 (lcP n q) (digB n d q) wr := by
        rcases hB.out.kids with ⟨h, h'⟩ | ⟨_, kb, h, hr⟩
        · subst h
          rw [h']
          exact hL.out.ext hB.out.ext
        · exact .inr ⟨_, _, h, Nat.le_refl _, hr.lie _ (Nat.le_refl _)⟩
      have kn := hideit (nodes_any u7 (lcP n q) cnt (digB n d q) wr hkids c3 c2)
      clear hkids
      go_upto_region 9 with (fail)
      refine wp_region_lit ?_
      refine wpList_run rfl (u7) (by simp [go_sem]) ?_
      simp only [Act.put, List.setIfInBounds_toArray, List.set_cons_zero, List.set_cons_succ]
      refine wpList_run rfl (.int .i64 (cnt : Int)) (by simp [go_sem]) ?_
      simp only [Act.put, List.setIfInBounds_toArray, List.set_cons_zero, List.set_cons_succ]
      refine wpList_call rfl (by simp [go_sem]) (kn.out.mono ?_)
      rintro e w4 ⟨rfl, hS4⟩
      refine ⟨_, rfl, ?_⟩
      simp only [Act.put, List.setIfInBounds_toArray, List.set_cons_zero, List.set_cons_succ]
      obtain ⟨B, hBB⟩ : ∃ B, B = wr.heap.size := ⟨_, rfl⟩
      have hlev : LevAt B cnt (nodeB n d q) w4 := by rw [hBB]; exact ⟨hS4.list, hS4.each⟩
      have hwB : w.heap.size ≤ B := by rw [hBB]; exact Below.size hB.out.ext
      have hE4 := hS4.ext
      rw [← hBB]
      have own4 := hB.out.own.ext hE4
      have levs4 := fun j hj => And.intro (hB.out.levs j hj).1 ((hB.out.levs j hj).2.carry hE4)
      have cnts4 := hB.out.cnts.carry hE4
      have res4 := hB.out.res.carry hE4
      have ext4 := Ext.trans hB.out.ext hE4
      have nil4 := hB.out.nil
      replace hlev := hideit hlev
      replace own4 := hideit own4
      replace levs4 := hideit levs4
      replace cnts4 := hideit cnts4
      replace res4 := hideit res4
      replace ext4 := hideit ext4
      replace nil4 := hideit nil4
      clear kn hS4 hE4 hB hBB ecnt
      go_upto_region 10 with (fail)
      have hX : Ext w4 (w4.alloc (.cells #[.slice (some ⟨B, 0, none⟩) cnt cnt] 33)) := (Below.refl _ _).alloc (Nat.le_refl _) _
      have hN' := hideit (lie_us w4 1 #[.slice (some ⟨B, 0, none⟩) cnt cnt] (fun _ => .slice (some ⟨B, 0, none⟩) cnt cnt) (fun j hj => by
        have : j = 0 := by omega
        subst this
        rfl) 33)
      have own5 := hideit (own4.out.ext hX)
      have lev5 := hideit (hlev.out.carry hX)
      have levs5 := hideit (fun j hj => And.intro (levs4.out j hj).1 ((levs4.out j hj).2.carry hX))
      have cnts5 := hideit (cnts4.out.carry hX)
      have res5 := hideit (res4.out.carry hX)
      have ext5 := hideit (Ext.trans ext4.out hX)
      clear own4 hlev levs4 cnts4 res4 ext4 hX
      refine wp_region_lit ?_
      refine wpList_run rfl (u6) (by simp [go_sem]) ?_
      simp only [Act.put, List.setIfInBounds_toArray, List.set_cons_zero, List.set_cons_succ]
      refine wpList_run rfl (.slice (some ⟨B, 0, none⟩) cnt cnt) (by simp [go_sem]) ?_
      simp only [Act.put, List.setIfInBounds_toArray, List.set_cons_zero, List.set_cons_succ]
      refine wpList_to rfl (.slice (some ⟨w4.heap.size, 0, none⟩) 1 1) (w4.alloc (.cells #[.slice (some ⟨B, 0, none⟩) cnt cnt] 33)) (by simp [go_sem]) ?_
      simp only [Act.put, List.setIfInBounds_toArray, List.set_cons_zero, List.set_cons_succ]
      generalize w4.alloc (.cells #[.slice (some ⟨B, 0, none⟩) cnt cnt] 33) = w5 at *
      generalize w4.heap.size = ab at *
      have hsz5 : w.heap.size + 1 ≤ w5.heap.size := res5.out.2.2
      refine wpList_growE (n := q) (base := w.heap.size + 1) elem24 rfl (.tmp 29) (.tmp 31) rfl rfl own5.out ⟨ab, 0, none⟩ 1 1 (fun _ => .slice (some ⟨B, 0, none⟩) cnt cnt) (lvV n fun j => if j = q then B else Bs j) rfl hN'.out (fun _ _ => rfl) (fun j hj => by
        unfold lvV
        simp only [show ¬ j = q by omega, if_false]) (fun j hj => by
        rw [show j = 0 by omega]
        unfold lvV
        simp only [Nat.add_zero, if_true]
        rw [hcnt.out]) (by omega) (by omega) hsz5 ?_
      intro v' Y hO' hg'
      have g0 : ∀ (b m : Nat) (h : Nat → Value), RowAt b m h w5 → 0 < m → (∀ A, h 0 ≠ .slice (some ⟨A, 0, none⟩) (lc n 0) (lc n 0)) → RowAt b m h Y := fun b m h hr hm hne =>
        hr.grown hg' (own_ne own5.out nil4.out hr hm (fun e => hne (Bs 0) (by rw [← e]; rfl)))
      have l0 : lc n 0 ≤ 256 := (hlvl.out 0 (by omega)).2.1
      have nd : ∀ B, ∀ A, ndV B 0 ≠ .slice (some ⟨A, 0, none⟩) (lc n 0) (lc n 0) := fun B A e => by
        unfold ndV at e
        injection e with _ e _
        omega
      have lev6 : LevAt B cnt (nodeB n d q) Y := ⟨g0 _ _ _ lev5.out.list (by omega) (nd B), fun i hi => g0 _ _ _ (lev5.out.each i hi) (by decide) (fun A e => by cases e)⟩
      have levs6 : ∀ j, j < q → w.heap.size ≤ Bs j ∧ LevAt (Bs j) (lc n j) (nodeB n d j) Y := fun j hj => ⟨(levs5.out j hj).1, g0 _ _ _ (levs5.out j hj).2.list (by have := (hlvl.out j (by omega)).1; omega) (nd _), fun i hi => g0 _ _ _ ((levs5.out j hj).2.each i hi) (by decide) (fun A e => by cases e)⟩
      have cnts6 := hideit (g0 _ _ _ cnts5.out (by omega) (fun A e => by cases e))
      have res6 := hideit (g0 _ _ _ res5.out (by decide) (fun A e => by cases e))
      have ext6 := hideit (grownE ext5.out own5.out (by omega) hg')
      replace hO' := hideit hO'
      replace lev6 := hideit lev6
      replace levs6 := hideit levs6
      clear g0 nd own5 lev5 levs5 cnts5 res5 ext5 hg' hN' nil4
      simp only [Act.put, List.setIfInBounds_toArray, List.set_cons_zero, List.set_cons_succ]
      have kd := hideit (digs_any q cnt (BitVec.ofNat 8 q) (by rw [BitVec.toNat_ofNat]; omega) _ (ndV B) (nodeB n d q) Y lev6.out.parts (hC.out.ext ext6.out) c2)
      go_upto_region 11 with (fail)
      refine wp_region_lit ?_
      refine wpList_run rfl (.int .i64 (q : Int)) (by simp [go_sem]) ?_
      simp only [Act.put, List.setIfInBounds_toArray, List.set_cons_zero, List.set_cons_succ]
      refine wpList_run rfl (.slice (some ⟨B, 0, none⟩) cnt cnt) (by simp [go_sem]) ?_
      simp only [Act.put, List.setIfInBounds_toArray, List.set_cons_zero, List.set_cons_succ]
      refine wpList_call rfl (by simp [go_sem]) (kd.out.mono ?_)
      rintro e w7 ⟨rfl, hR7, hX7⟩
      refine ⟨_, rfl, ?_⟩
      simp only [Act.put, List.setIfInBounds_toArray, List.set_cons_zero, List.set_cons_succ]
      have H7 : BT w n N cb d (.slice ov n cap) (fun j => if j = q then B else Bs j) (q + 1) v' (.slice (some ⟨Y.heap.size, 0, none⟩) cnt cnt) w7 :=
        ⟨Ext.trans ext6.out hX7, hO'.out.ext hX7, fun h => absurd h (by omega), fun j hj => by
          by_cases h : j = q
          · subst h
            simp only [if_true]
            rw [← hcnt.out]
            exact ⟨hwB, lev6.out.carry hX7⟩
          · simp only [h, if_false]
            have := levs6.out j (by omega)
            exact ⟨this.1, this.2.carry hX7⟩, cnts6.out.carry hX7, res6.out.carry hX7, .inr ⟨by omega, Y.heap.size, by
          show _ = Value.slice _ (lc n q) (lc n q)
          rw [hcnt.out], by
          show RowAt _ (lc n q * 32) _ _
          rw [← hcnt.out]
          exact hR7⟩⟩
      replace H7 := hideit H7
      clear kd hR7 hX7 ext6 hO' lev6 levs6 cnts6 res6
      go_wp2
      exact ⟨⟨q + 1, _, by omega, by go_num, H7.out⟩, by simp [intOf]; omega⟩
    · obtain rfl : q = N := by omega
      have q1 : ¬ (q : Int) < (q : Int) := by omega
      obtain ⟨kb, hkv, hkr⟩ : ∃ kb, u7 = .slice (some ⟨kb, 0, none⟩) 1 1 ∧ RowAt kb 32 (yv (digB n d q 0)) wr := by
        rcases hB.out.kids with ⟨h, _⟩ | ⟨_, kb, h, hr⟩
        · omega
        · rw [htop.out] at h hr
          refine ⟨kb, h, ?_⟩
          rw [Nat.one_mul] at hr
          exact hr.congr fun j hj => by
            have := lf_row (digB n d q) 0 j hj
            rwa [Nat.zero_mul, Nat.zero_add] at this
      subst hkv
      replace hkr := hideit hkr
      obtain ⟨lo, lcap, rfl⟩ : ∃ lo lcap, u6 = .slice lo q lcap := by
        obtain ⟨b, c, h, _⟩ := hB.out.own.lies (by omega)
        exact ⟨_, _, h⟩
      have kr := hideit (root_any n (digB n d q 0) wr (hC.out.ext hB.out.ext))
      go_upto_region 13 with (fail)
      refine wp_region_lit ?_
      refine wpList_run rfl (.slice lo q lcap) (by simp [go_sem]) ?_
      simp only [Act.put, List.setIfInBounds_toArray, List.set_cons_zero, List.set_cons_succ]
      refine wpList_run rfl (.slice ov n cap) (by simp [go_sem]) ?_
      simp only [Act.put, List.setIfInBounds_toArray, List.set_cons_zero, List.set_cons_succ]
      refine wpList_run rfl (.int .i64 (n : Int)) (by simp [go_sem]) ?_
      simp only [Act.put, List.setIfInBounds_toArray, List.set_cons_zero, List.set_cons_succ]
      refine wpList_run rfl (.slice (some ⟨kb, 0, none⟩) 1 1) (by simp [go_sem]) ?_
      simp only [Act.put, List.setIfInBounds_toArray, List.set_cons_zero, List.set_cons_succ]
      refine wpList_run rfl (.pointer (some ⟨kb, 0, none⟩)) (by simp [go_sem]) ?_
      simp only [Act.put, List.setIfInBounds_toArray, List.set_cons_zero, List.set_cons_succ]
      refine wpList_run rfl (.agg (row 32 (yv (digB n d q 0))).toArray) (exec_loadR 25 (.tmp 41) rfl kb 0 32 _ rfl hkr.out.range Tryd.underlying25 rfl info24) ?_
      simp only [Act.put, List.setIfInBounds_toArray, List.set_cons_zero, List.set_cons_succ]
      obtain ⟨R, hR⟩ : ∃ R, R = rootF n (digB n d q 0) := ⟨_, rfl⟩
      rw [← hR] at kr
      refine wpList_call rfl (by simp [go_sem]) (kr.out.mono ?_)
      rintro e w7 ⟨rfl, hX7⟩
      refine ⟨_, rfl, ?_⟩
      simp only [Act.put, List.setIfInBounds_toArray, List.set_cons_zero, List.set_cons_succ]
      refine wpList_run rfl (.slice lo q lcap) (by simp [go_sem]) ?_
      simp only [Act.put, List.setIfInBounds_toArray, List.set_cons_zero, List.set_cons_succ]
      have res7 := hB.out.res.carry hX7
      have hE7 := hideit (Ext.trans hB.out.ext hX7)
      have hO7 := hB.out.own.ext hX7
      have hl7 := fun j hj => And.intro (hB.out.levs j hj).1 ((hB.out.levs j hj).2.carry hX7)
      have res8 := hideit (res7.cells (g' := yv R))
      have hE8 := hideit (below_setCells w.heap.size (Nat.le_refl _) (row 32 (yv R)) 0 w7 hE7.out)
      have hB8 := hideit (But.sets (c := w.heap.size) (row 32 (yv R)) 0 w7 (But.refl _ _))
      have hO8 := hideit ((hO7.but hB8.out (fun e => by have := hO7.lt _ e; omega)).down (Nat.le_succ _))
      have hl8 : ∀ j, j < q → w.heap.size ≤ Bs j ∧ LevAt (Bs j) (lc n j) (nodeB n d j) (w7.setCells w.heap.size 0 (row 32 (yv R))) := fun j hj => by
        obtain ⟨a1, a2⟩ := hl7 j hj
        refine ⟨a1, a2.list.cellsOther ?_ _ _, fun i hi => (a2.each i hi).cellsOther (by omega) _ _⟩
        intro e
        have e1 := a2.list.1 0 (by have := (hlvl.out j hj).1; omega)
        rw [← e, res7.1 0 (by decide)] at e1
        cases e1
      replace hl8 := hideit hl8
      clear hB hkr kr hX7 hE7 hO7 hl7 hB8
      refine wpList_store_mid rfl 25 (.tmp 3) (.tmp 43) rfl _ 0 (row 32 (yv R)).toArray rfl rfl (by rw [row_size]; exact res7.there) (by rw [row_size]; exact info24) (row_one fun _ _ => rfl) ?_
      rw [show (row 32 (yv R)).toArray.toList = row 32 (yv R) from rfl]
      generalize w7.setCells w.heap.size 0 (row 32 (yv R)) = w8 at *
      clear res7
      replace hR := hideit hR
      simp only [Act.put]
      go_wp2
      exact bodyPost_ret (ret_row3 Tryd.results9 rfl res8.out Tryd.underlying25 rfl info24) rfl ⟨_, by rw [← hR.out]; rfl, Bs, hO8.out, hl8.out, hE8.out⟩
set_option maxRecDepth 20000 in
set_option maxHeartbeats 4000000 in
theorem build_no (n : Nat) (hn : n < 1 ∨ 4096 < n) (v : Value) (d : Nat → Nat → BitVec 8) (w : World) (hL : LV v n d w) :
    Calls Tryd.prog 9 #[v] w fun e w' => e = .returned (.tuple #[.slice none 0 0, .agg (row 32 (yv fun _ => 0#8)).toArray, .int .i64 1]) ∧ Ext w w' := by
  obtain ⟨ov, cap, rfl⟩ := hL.form
  have hz := zero24
  have HR0 := hideit (RowAt.new w 32 (yv fun _ => 0#8) 25)
  have HE0 : Ext w (w.alloc (.cells (row 32 (yv fun _ => 0#8)).toArray 25)) := (Below.refl _ _).alloc (Nat.le_refl _) _
  have kl := hideit (levels_no (n : Int) (by omega) (w.alloc (.cells (row 32 (yv fun _ => 0#8)).toArray 25)))
  replace HE0 := hideit HE0
  clear hL hn
  go_enter Tryd.func9, Tryd.ntmps9
  go_upto_region 1 with (fail)
  generalize w.alloc (.cells (row 32 (yv fun _ => 0#8)).toArray 25) = w1 at *
  go_upto_region 3 with (go_at_call 17; refine kl.out.mono ?_; rintro e w9 ⟨rfl, hw9⟩; rw [hw9]; clear hw9)
  refine wp_region_lit ?_
  refine wpList_build rfl 25 [] rfl (.agg (row 32 (yv fun _ => 0#8)).toArray) (build25 _) ?_
  simp only [Act.put, List.setIfInBounds_toArray, List.set_cons_zero, List.set_cons_succ]
  refine wpList_run rfl (.slice none 0 0) (by simp [go_sem]) ?_
  simp only [Act.put, List.setIfInBounds_toArray, List.set_cons_zero, List.set_cons_succ]
  refine wpList_store_mid rfl 25 (.tmp 3) (.tmp 17) rfl _ 0 (row 32 (yv fun _ => 0#8)).toArray rfl rfl (by rw [row_size]; exact HR0.out.there) (by rw [row_size]; exact info24) (row_one fun _ _ => rfl) ?_
  have res8 := hideit (HR0.out.cells (g' := yv fun _ => 0#8))
  have hE8 := hideit (below_setCells w.heap.size (Nat.le_refl _) (row 32 (yv fun _ => 0#8)) 0 w1 HE0.out)
  rw [show (row 32 (yv fun _ => 0#8)).toArray.toList = row 32 (yv fun _ => 0#8) from rfl]
  generalize w1.setCells w.heap.size 0 (row 32 (yv fun _ => 0#8)) = w8 at *
  clear HR0 HE0
  simp only [Act.put]
  go_wp2
  exact bodyPost_ret (ret_row3 Tryd.results9 rfl res8.out Tryd.underlying25 rfl info24) rfl ⟨rfl, hE8.out⟩
end Go.Proofs.YtapmheocllicnaaDoor
