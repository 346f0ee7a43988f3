/-
  The document's disk: a block rewritten; all made sure. The document's disk: all made sure.
-/
import Derived.Test.YtfaeieaelfjlpaaQ24
namespace Go.Proofs.Ytfaeieaelfjlpaa
open Go.RowKit Go.BigFrame Go.Maps
theorem upN_self {α : Type} (f : Nat → α) (n : Nat) : upN f n (f n) = f := funext fun i => by
  by_cases e : i = n
  · rw [e, upN_same]
  · rw [upN_other _ e]
theorem exec_storeP {P : Program} {o : Oper} {a : Act} {w : World} (t : TypeId) (x y : Operand) (ho : o.op = .store t x y) (b off m : Nat) (g' : Nat → Value) (hx : a.eval x = .pointer (some ⟨b, off, none⟩)) (hy : a.eval y = .agg (row m g').toArray) (ht : w.there b off m)
    (hi : (P.info? t).map (·.size) = some m) (h1 : ∀ j, j < m → (g' j).oneCell' = true) : (execOp a.eval o).run P w = .ok .skip (w.setCells b off (row m g')) := by
  unfold execOp
  simp only [ho, hx, hy, Instr.storeAt, Instr.sureAddr, Sem.run_bind, Sem.run_pure, Result.andThen_ok, run_storeVar_mid (P := P) w b off t (row m g').toArray (by rw [row_size]; exact ht) (by rw [row_size]; exact hi) (row_one h1)]
section
variable {F G : Nat → Prop} {x : Nat} {s : DSt} {stp : Bool} {cl : Int} {R : RM} {W Y : World}
theorem RdM.setS1 (h : RdM G x s stp cl R W) (n : Nat) (f : Nat → BitVec 8) : RdM G x { s with S := upN s.S n f } stp cl R (W.setCell ⟨R.bb, n * 2, none⟩ (.string (tx f))) ∧ Keeps (fun i => i = x ∨ i = R.bb) W (W.setCell ⟨R.bb, n * 2, none⟩ (.string (tx f))) := by
  have k := but_setCell W R.bb (n * 2) (.string (tx f))
  have kk : Keeps (fun i => i = x ∨ i = R.bb) W (W.setCell ⟨R.bb, n * 2, none⟩ (.string (tx f))) := Keeps.of_grown k fun b hb => by cases hb; exact .inl (.inr rfl)
  have kb : Keeps (fun i => i = R.bb) W (W.setCell ⟨R.bb, n * 2, none⟩ (.string (tx f))) := Keeps.of_grown k fun b hb => by cases hb; exact .inl rfl
  refine ⟨{ h with
    st := h.st.keep kb h.xb
    row := (h.row.set (n * 2) (.string (tx f))).congr fun j hj => ?_
    list := fun m hm => (h.list m hm).keep kb fun b hb e => (h.la m b hm hb).2 e
    lt := fun i hi => Nat.lt_of_lt_of_le (h.lt i hi) k.size
    nx := fun e => h.nx e.unset
    nbb := fun e => h.nbb e.unset }, kk⟩
  unfold blV
  by_cases e : j = n * 2
  · rw [if_pos e, if_pos (by omega), show j / 2 = n by omega]
    show _ = Value.string (tx (upN s.S n f n))
    rw [upN_same]
  · rw [if_neg e]
    by_cases e2 : j % 2 = 0
    · rw [if_pos e2, if_pos e2]
      show _ = Value.string (tx (upN s.S n f (j / 2)))
      rw [upN_other _ (by omega)]
    · rw [if_neg e2, if_neg e2]
theorem RdM.setL1 (h : RdM G x s stp cl R W) (n : Nat) (v : Value) (k' : Nat) (u : Nat → Nat → BitVec 8) (hO : OwnB 0 9 v k' (fun j => .string (tx (u j))) W) (hv : ∀ b, v.ownBlock = some b → b ≠ x ∧ b ≠ R.bb) : RdM (fun i => G i ∨ v.ownBlock = some i) x { s with kc := upN s.kc n k', uc := upN s.uc n u } stp cl { R with lv := upN R.lv n v } (W.setCell ⟨R.bb, n * 2 + 1, none⟩ v) ∧ Keeps (fun i => i = x ∨ i = R.bb) W (W.setCell ⟨R.bb, n * 2 + 1, none⟩ v) := by
  have k := but_setCell W R.bb (n * 2 + 1) v
  have kk : Keeps (fun i => i = x ∨ i = R.bb) W (W.setCell ⟨R.bb, n * 2 + 1, none⟩ v) := Keeps.of_grown k fun b hb => by cases hb; exact .inl (.inr rfl)
  have kb : Keeps (fun i => i = R.bb) W (W.setCell ⟨R.bb, n * 2 + 1, none⟩ v) := Keeps.of_grown k fun b hb => by cases hb; exact .inl rfl
  refine ⟨⟨h.st.keep kb h.xb, h.n4, h.ncp, h.ck, (h.row.set (n * 2 + 1) v).congr fun j hj => ?_, fun m hm => ?_, .inl h.gx, .inl h.gb, fun m b hm hb => ?_, h.xb, fun m b hm hb => ?_, fun i hi => ?_, fun e => h.nx e.unset, fun e => h.nbb e.unset⟩, kk⟩
  · unfold blV
    by_cases e : j = n * 2 + 1
    · rw [if_pos e, if_neg (by omega), show j / 2 = n by omega]
      show _ = upN R.lv n v n
      rw [upN_same]
    · rw [if_neg e]
      by_cases e2 : j % 2 = 0
      · rw [if_pos e2, if_pos e2]
      · rw [if_neg e2, if_neg e2]
        show _ = upN R.lv n v (j / 2)
        rw [upN_other _ (by omega)]
  · show OwnB 0 9 (upN R.lv n v m) (upN s.kc n k' m) (fun j => .string (tx (upN s.uc n u m j))) _
    by_cases e : m = n
    · subst e
      rw [upN_same, upN_same, upN_same]
      exact hO.keep kb fun b hb e => (hv b hb).2 e
    · rw [upN_other _ e, upN_other _ e, upN_other _ e]
      exact (h.list m hm).keep kb fun b hb e => (h.la m b hm hb).2 e
  · have hb' : (upN R.lv n v m).ownBlock = some b := hb
    by_cases e : m = n
    · subst e
      rw [upN_same] at hb'
      exact .inr hb'
    · rw [upN_other _ e] at hb'
      exact .inl (h.gl m b hm hb')
  · have hb' : (upN R.lv n v m).ownBlock = some b := hb
    by_cases e : m = n
    · subst e
      rw [upN_same] at hb'
      exact hv b hb'
    · rw [upN_other _ e] at hb'
      exact h.la m b hm hb'
  · rcases hi with hi | hi
    · exact Nat.lt_of_lt_of_le (h.lt i hi) k.size
    · exact Nat.lt_of_lt_of_le (hO.lt i hi).2 k.size
theorem RdM.reG {G' : Nat → Prop} (h : RdM G x s stp cl R W) (h1 : ∀ i, G i → G' i) (h2 : ∀ i, G' i → G i) : RdM G' x s stp cl R W := { h with
  gx := h1 _ h.gx
  gb := h1 _ h.gb
  gl := fun n b hn hb => h1 _ (h.gl n b hn hb)
  lt := fun i hi => h.lt i (h2 i hi) }
/-- a block set: so sure, and nothing else -/
theorem rd_setB (h : RdM G x s stp cl R W) (n : Nat) (f : Nat → BitVec 8) : RdM G x { s with S := upN s.S n f, kc := upN s.kc n 0 } stp cl { R with lv := upN R.lv n (.slice none 0 0) } (W.setCells R.bb (n * 2) (row 2 (bkI (tx f) (.slice none 0 0)))) ∧ Keeps (fun i => i = x ∨ i = R.bb) W (W.setCells R.bb (n * 2) (row 2 (bkI (tx f) (.slice none 0 0)))) := by
  obtain ⟨h1, k1⟩ := h.setS1 n f
  obtain ⟨h2, k2⟩ := h1.setL1 n (.slice none 0 0) 0 (s.uc n) (own_nil _ 0 9 _) (fun b hb => by cases hb)
  have e : W.setCells R.bb (n * 2) (row 2 (bkI (tx f) (.slice none 0 0))) = (W.setCell ⟨R.bb, n * 2, none⟩ (.string (tx f))).setCell ⟨R.bb, n * 2 + 1, none⟩ (.slice none 0 0) := rfl
  rw [e]
  have h3 := h2.reG (G' := G) (fun i hi => by
    rcases hi with hi | hi
    · exact hi
    · cases hi) fun i hi => .inl hi
  have eu : upN s.uc n (s.uc n) = s.uc := upN_self _ _
  refine ⟨?_, k1.trans (F' := fun i => i = x ∨ i = R.bb) k2 fun i hi => .inl hi⟩
  have h4 : RdM G x { s with S := upN s.S n f, kc := upN s.kc n 0, uc := upN s.uc n (s.uc n) } stp cl { R with lv := upN R.lv n (.slice none 0 0) } ((W.setCell ⟨R.bb, n * 2, none⟩ (.string (tx f))).setCell ⟨R.bb, n * 2 + 1, none⟩ (.slice none 0 0)) := h3
  rw [eu] at h4
  exact h4
theorem rtamper_bad (h : RdM G x s stp cl R W) (n : Int) (o : Option Addr) (l c : Nat) (hn : cbE s.N n l ≠ 0) : Calls Try.prog 34 #[.pointer (some ⟨x, 0, none⟩), .int .i64 n, .slice o l c] W fun e w' => e = .returned (.int .i64 (cbE s.N n l)) ∧ w' = W := by
  have km := rmay h n o l c
  generalize cbE s.N n l = r at *
  replace km := hideit km
  clear h
  go_enter Try.func34, Try.ntmps34
  go_wp2_with (go_at_call 45; refine km.out.mono ?_; rintro e w9 ⟨rfl, hw9⟩; rw [hw9]; clear hw9)
  go_ret
  exact ⟨rfl, rfl⟩
set_option maxRecDepth 20000 in
set_option maxHeartbeats 2000000 in
theorem rtamper (h : RdM G x s stp cl R W) (n : Nat) (hn : n < s.N) (o : Option Addr) (c : Nat) (f : Nat → BitVec 8) (hb : BV (.slice o 512 c) 512 f W) : Calls Try.prog 34 #[.pointer (some ⟨x, 0, none⟩), .int .i64 (n : Int), .slice o 512 c] W fun e w' => e = .returned (.int .i64 0) ∧ ∃ R', R'.bb = R.bb ∧ RdM G x { s with S := upN s.S n f, kc := upN s.kc n 0 } stp cl R' w' ∧ Keeps (fun i => i = x ∨ i = R.bb) W w' := by
  have km := rmay h (n : Int) o 512 c
  rw [cbE_ok hn] at km
  replace km := hideit km
  have hD : Ext W W.drew := (Ext.refl W).draw
  have hs := hideit (rd_setB (h.ext hD) n f)
  have hn4 := h.n4
  have i0 : (0 : Int) ≤ (n : Int) := by omega
  have i1 : (n : Int) < (s.N : Int) := by omega
  have e0 : ∀ X, Ext W.drew X → X.cell? ⟨x, 0, none⟩ = some (.slice (some ⟨R.bb, 0, none⟩) s.N R.cp) := fun X hX => (h.ext (Ext.trans hD hX)).c0
  have ca : ∀ X, Ext W.drew X → (convert 31 9 (.slice o 512 c)).run Try.prog X = .ok (.string (tx f)) X := fun X hX => convV _ _ _ X ((hb.ext hD).ext hX)
  have hth : W.drew.there R.bb (n * 2) 2 := by
    have h1 := ((h.ext hD).row).there
    intro j hj
    have := h1 (n * 2 + j) (by omega)
    simpa using this
  generalize ht : tx f = a at ca hs
  replace ht := hideit ht
  have hkD : Hid (Keeps (fun i => i = x ∨ i = R.bb) W W.drew) := Keeps.of_ext hD
  clear h hb hD
  go_enter Try.func34, Try.ntmps34
  go_upto_region 4 with (go_at_call 45; refine km.out.mono ?_; rintro e w9 ⟨rfl, hw9⟩; rw [hw9]; clear hw9)
  refine wp_region_ladz (fun X => Ext W.drew X) [9] [(false, 0), (false, 1), (false, 2), (false, 3), (false, 4), (false, 5), (false, 6), (false, 7), (false, 8), (true, 9)] (by kernel_rfl) (by kernel_rfl) (by decide +kernel) (by decide +kernel) (by decide +kernel) (by decide +kernel) (Ext.refl _) ?_
  generalize W.drew = wd at *
  refine wpZ_f _ (.pointer (some ⟨x, 0, none⟩)) rfl rfl (fun X _ => by simp [go_sem]) ?_
  simp only [List.getElem_toArray, List.getElem_cons_zero, Act.put, List.setIfInBounds_toArray, List.set_cons_zero, List.set_cons_succ]
  refine wpZ_f _ (.pointer (some ⟨x, 0, none⟩)) rfl rfl (fun X _ => by simp [go_sem]) ?_
  simp only [List.getElem_toArray, List.getElem_cons_zero, List.getElem_cons_succ, Act.put, List.setIfInBounds_toArray, List.set_cons_zero, List.set_cons_succ]
  refine wpZ_f _ (.pointer (some ⟨x, 0, none⟩)) rfl rfl (fun X _ => by simp [go_sem]) ?_
  simp only [List.getElem_toArray, List.getElem_cons_zero, List.getElem_cons_succ, Act.put, List.setIfInBounds_toArray, List.set_cons_zero, List.set_cons_succ]
  refine wpZ_f _ (.slice (some ⟨R.bb, 0, none⟩) s.N R.cp) rfl rfl (fun X hX => by have e := e0 X hX; simp [go_sem, e]) ?_
  simp only [List.getElem_toArray, List.getElem_cons_zero, List.getElem_cons_succ, Act.put, List.setIfInBounds_toArray, List.set_cons_zero, List.set_cons_succ]
  refine wpZ_f _ (.int .i64 (n : Int)) rfl rfl (fun X _ => by simp [go_sem]) ?_
  simp only [List.getElem_toArray, List.getElem_cons_zero, List.getElem_cons_succ, Act.put, List.setIfInBounds_toArray, List.set_cons_zero, List.set_cons_succ]
  refine wpZ_f _ (.slice o 512 c) rfl rfl (fun X _ => by simp [go_sem]) ?_
  simp only [List.getElem_toArray, List.getElem_cons_zero, List.getElem_cons_succ, Act.put, List.setIfInBounds_toArray, List.set_cons_zero, List.set_cons_succ]
  refine wpZ_f _ (.string a) rfl rfl (fun X hX => by have e := ca X hX; simp [go_sem, e]) ?_
  simp only [List.getElem_toArray, List.getElem_cons_zero, List.getElem_cons_succ, Act.put, List.setIfInBounds_toArray, List.set_cons_zero, List.set_cons_succ]
  refine wpZ_f _ (.agg (row 2 (bkI a (.slice none 0 0))).toArray) rfl rfl (fun X _ => by simp [go_sem]; rfl) ?_
  simp only [List.getElem_toArray, List.getElem_cons_zero, List.getElem_cons_succ, Act.put, List.setIfInBounds_toArray, List.set_cons_zero, List.set_cons_succ]
  refine wpZ_f _ (.pointer (some ⟨R.bb, n * 2, none⟩)) rfl rfl (fun X _ => by simp [go_sem, i1]) ?_
  simp only [List.getElem_toArray, List.getElem_cons_zero, List.getElem_cons_succ, Act.put, List.setIfInBounds_toArray, List.set_cons_zero, List.set_cons_succ]
  refine wpZ_st _ (wd.setCells R.bb (n * 2) (row 2 (bkI a (.slice none 0 0)))) rfl rfl (exec_storeP 63 (.tmp 23) (.tmp 22) rfl R.bb (n * 2) 2 _ rfl rfl hth info63 fun j hj => by rcases (by omega : j = 0 ∨ j = 1) with rfl | rfl <;> rfl) (fun _ => True) (.inl (by simp)) trivial ?_
  simp only [List.getElem_toArray, List.getElem_cons_zero, List.getElem_cons_succ, Act.put]
  refine wpZ_nil ?_
  generalize wd.setCells R.bb (n * 2) (row 2 (bkI a (.slice none 0 0))) = Y at *
  clear e0 ca hth km
  go_wp2
  go_ret
  exact ⟨rfl, { R with lv := upN R.lv n (.slice none 0 0) }, rfl, hs.out.1, hkD.out.trans (F' := fun i => i = x ∨ i = R.bb) hs.out.2 fun i hi => .inl hi⟩
end
end Go.Proofs.Ytfaeieaelfjlpaa
namespace Go.Proofs.Ytfaeieaelfjlpaa
open Go.RowKit Go.BigFrame Go.Maps
def flR (s : DSt) : DSt := { s with S := hasF s, kc := fun _ => 0 }
def flK (s : DSt) (i : Nat) : DSt := { s with S := fun m => if m < i then hasF s m else s.S m, kc := fun m => if m < i then 0 else s.kc m }
theorem flK_has (s : DSt) (i : Nat) : hasF (flK s i) i = hasF s i := by
  have e1 : (flK s i).kc i = s.kc i := if_neg (Nat.lt_irrefl _)
  have e2 : (flK s i).S i = s.S i := if_neg (Nat.lt_irrefl _)
  unfold hasF
  rw [e1, e2]
  rfl
section
variable {F G : Nat → Prop} {x : Nat} {s s' : DSt} {stp : Bool} {cl : Int} {R : RM} {W Y : World}
theorem RdM.congr (h : RdM G x s stp cl R W) (hN : s'.N = s.N) (h1 : ∀ m, m < s.N → s.S m = s'.S m) (h2 : ∀ m, m < s.N → s.kc m = s'.kc m) (h3 : ∀ m, m < s.N → s.uc m = s'.uc m) : RdM G x s' stp cl R W where
  st := by rw [hN]; exact h.st
  n4 := by rw [hN]; exact h.n4
  ncp := by rw [hN]; exact h.ncp
  ck := h.ck
  row := by
    rw [hN]
    refine h.row.congr fun j hj => ?_
    unfold blV
    rw [h1 (j / 2) (by omega)]
  list := fun n hn => by
    rw [hN] at hn
    rw [← h2 n hn, ← h3 n hn]
    exact h.list n hn
  gx := h.gx
  gb := h.gb
  gl := fun n b hn => h.gl n b (by rw [← hN]; exact hn)
  xb := h.xb
  la := fun n b hn => h.la n b (by rw [← hN]; exact hn)
  lt := h.lt
  nx := h.nx
  nbb := h.nbb
structure FkR (G : Nat → Prop) (x : Nat) (s : DSt) (stp : Bool) (cl : Int) (bb : Nat) (W : World) (i : Nat) (R1 : RM) (X : World) : Prop where
  rd : RdM G x (flK s i) stp cl R1 X
  isB : R1.bb = bb
  keeps : Keeps (fun i => i = x ∨ i = bb) W X
theorem FkR.step {bb i : Nat} {R1 : RM} {X X1 : World} (h : FkR G x s stp cl bb W i R1 X) (hE : Ext X X1) : FkR G x s stp cl bb W (i + 1) { R1 with lv := upN R1.lv i (.slice none 0 0) } (X1.setCells R1.bb (i * 2) (row 2 (bkI (tx (hasF s i)) (.slice none 0 0)))) := by
  obtain ⟨h1, k1⟩ := rd_setB (h.rd.ext hE) i (hasF s i)
  refine ⟨h1.congr rfl (fun m hm => ?_) (fun m hm => ?_) (fun m hm => rfl), h.isB, ?_⟩
  · show upN (fun m => if m < i then hasF s m else s.S m) i (hasF s i) m = if m < i + 1 then hasF s m else s.S m
    by_cases e : m = i
    · rw [e, upN_same, if_pos (by omega)]
    · rw [upN_other _ e]
      by_cases e2 : m < i
      · rw [if_pos e2, if_pos (by omega)]
      · rw [if_neg e2, if_neg (by omega)]
  · show upN (fun m => if m < i then 0 else s.kc m) i 0 m = if m < i + 1 then 0 else s.kc m
    by_cases e : m = i
    · rw [e, upN_same, if_pos (by omega)]
    · rw [upN_other _ e]
      by_cases e2 : m < i
      · rw [if_pos e2, if_pos (by omega)]
      · rw [if_neg e2, if_neg (by omega)]
  · have k2 := h.keeps.ext hE
    rw [h.isB] at k1
    rw [h.isB]
    exact k2.trans (F' := fun i => i = x ∨ i = bb) k1 fun i hi => .inl hi
theorem rflush_off (h : RdM G x s stp cl R W) (ho : offR stp cl = true) : Calls Try.prog 32 #[.pointer (some ⟨x, 0, none⟩)] W fun e w' => e = .returned (.int .i64 102) ∧ w' = W := by
  have ko := roff h
  rw [ho] at ko
  replace ko := hideit ko
  clear h ho
  go_enter Try.func32, Try.ntmps32
  go_wp2_with (go_at_call 37; refine ko.out.mono ?_; rintro e w9 ⟨rfl, hw9⟩; rw [hw9]; clear hw9)
  go_ret
  exact ⟨rfl, rfl⟩
set_option maxRecDepth 20000 in
set_option maxHeartbeats 2000000 in
theorem rflush (h : RdM G x s stp cl R W) (ho : offR stp cl = false) (hp : stp = true → 0 < cl) : Calls Try.prog 32 #[.pointer (some ⟨x, 0, none⟩)] W fun e w' => e = .returned (.int .i64 0) ∧ ∃ R', R'.bb = R.bb ∧ RdM G x (flR s) stp (clD stp cl) R' w' ∧ Keeps (fun i => i = x ∨ i = R.bb) W w' := by
  have ko := roff h
  rw [ho] at ko
  replace ko := hideit ko
  have hn4 := h.n4
  have h0 : Hid (FkR G x s stp cl R.bb W 0 R W) := ⟨h.congr rfl (fun m hm => by show s.S m = if m < 0 then hasF s m else s.S m; rw [if_neg (Nat.not_lt_zero _)]) (fun m hm => by show s.kc m = if m < 0 then 0 else s.kc m; rw [if_neg (Nat.not_lt_zero _)]) (fun m hm => rfl), rfl, Keeps.refl _ _⟩
  replace hp := hideit hp
  clear h ho
  go_enter Try.func32, Try.ntmps32
  go_wp2_with (go_at_call 37; refine ko.out.mono ?_; rintro e w9 ⟨rfl, hw9⟩; rw [hw9]; clear hw9)
  go_loopw [3] (fun iv X => ∃ (i : Nat) (R1 : RM), i ≤ s.N ∧ iv = .int .i64 (i : Int) ∧ FkR G x s stp cl R.bb W i R1 X) (fun iv _ => 5000 - (intOf iv).toNat)
  case atStart => exact ⟨0, _, Nat.zero_le _, rfl, h0.out⟩
  case round =>
    obtain ⟨i, R1, hi, rfl, hI⟩ := hrel
    clear h0 ko
    have e0 : wr.cell? ⟨x, 0, none⟩ = some (.slice (some ⟨R1.bb, 0, none⟩) s.N R1.cp) := hI.rd.c0
    by_cases hlt : i < s.N
    · have i0 : (0 : Int) ≤ (i : Int) := by omega
      have i1 : (i : Int) < (s.N : Int) := by omega
      have hD : Ext wr wr.drew := (Ext.refl wr).draw
      have kh := rhas (hI.rd.ext hD) i hlt
      rw [flK_has] at kh
      replace kh := hideit kh
      have e0' : ∀ X, Ext wr.drew X → X.cell? ⟨x, 0, none⟩ = some (.slice (some ⟨R1.bb, 0, none⟩) s.N R1.cp) := fun X hX => (hI.rd.ext (Ext.trans hD hX)).c0
      go_upto_region 4 with (fail)
      refine wp_region_lit ?_
      refine wpList_run rfl (.int .i64 (i : Int)) (by simp [go_sem]) ?_
      simp only [Act.put, List.setIfInBounds_toArray, List.set_cons_zero, List.set_cons_succ]
      refine wpList_run rfl (.pointer (some ⟨x, 0, none⟩)) (by simp [go_sem]) ?_
      simp only [Act.put, List.setIfInBounds_toArray, List.set_cons_zero, List.set_cons_succ]
      refine wpList_run rfl (.pointer (some ⟨x, 0, none⟩)) (by simp [go_sem]) ?_
      simp only [Act.put, List.setIfInBounds_toArray, List.set_cons_zero, List.set_cons_succ]
      refine wpList_run rfl (.pointer (some ⟨x, 0, none⟩)) (by simp [go_sem]) ?_
      simp only [Act.put, List.setIfInBounds_toArray, List.set_cons_zero, List.set_cons_succ]
      refine wpList_run rfl (.slice (some ⟨R1.bb, 0, none⟩) s.N R1.cp) (by simp [go_sem, e0]) ?_
      simp only [Act.put, List.setIfInBounds_toArray, List.set_cons_zero, List.set_cons_succ]
      refine wpList_run rfl (.int .i64 (s.N : Int)) (by simp [go_sem]) ?_
      simp only [Act.put, List.setIfInBounds_toArray, List.set_cons_zero, List.set_cons_succ]
      refine wpList_run rfl (.bool true) (by simp [go_sem, i1]) ?_
      simp only [Act.put, List.setIfInBounds_toArray, List.set_cons_zero, List.set_cons_succ]
      clear e0
      go_upto_region 6 with (fail)
      refine wp_region_ladz (fun X => Ext wr.drew X) [10] [(false, 0), (false, 1), (false, 2), (false, 3), (false, 4), (false, 5), (false, 6), (false, 9), (true, 7), (false, 8), (true, 10)] (by kernel_rfl) (by kernel_rfl) (by decide +kernel) (by decide +kernel) (by decide +kernel) (by decide +kernel) (Ext.refl _) ?_
      refine wpZ_f _ (.pointer (some ⟨x, 0, none⟩)) rfl rfl (fun X _ => by simp [go_sem]) ?_
      simp only [List.getElem_toArray, List.getElem_cons_zero, Act.put, List.setIfInBounds_toArray, List.set_cons_zero, List.set_cons_succ]
      refine wpZ_f _ (.pointer (some ⟨x, 0, none⟩)) rfl rfl (fun X _ => by simp [go_sem]) ?_
      simp only [List.getElem_toArray, List.getElem_cons_zero, List.getElem_cons_succ, Act.put, List.setIfInBounds_toArray, List.set_cons_zero, List.set_cons_succ]
      refine wpZ_f _ (.pointer (some ⟨x, 0, none⟩)) rfl rfl (fun X _ => by simp [go_sem]) ?_
      simp only [List.getElem_toArray, List.getElem_cons_zero, List.getElem_cons_succ, Act.put, List.setIfInBounds_toArray, List.set_cons_zero, List.set_cons_succ]
      refine wpZ_f _ (.slice (some ⟨R1.bb, 0, none⟩) s.N R1.cp) rfl rfl (fun X hX => by have e := e0' X hX; simp [go_sem, e]) ?_
      simp only [List.getElem_toArray, List.getElem_cons_zero, List.getElem_cons_succ, Act.put, List.setIfInBounds_toArray, List.set_cons_zero, List.set_cons_succ]
      refine wpZ_f _ (.int .i64 (i : Int)) rfl rfl (fun X _ => by simp [go_sem]) ?_
      simp only [List.getElem_toArray, List.getElem_cons_zero, List.getElem_cons_succ, Act.put, List.setIfInBounds_toArray, List.set_cons_zero, List.set_cons_succ]
      refine wpZ_f _ (.pointer (some ⟨x, 0, none⟩)) rfl rfl (fun X _ => by simp [go_sem]) ?_
      simp only [List.getElem_toArray, List.getElem_cons_zero, List.getElem_cons_succ, Act.put, List.setIfInBounds_toArray, List.set_cons_zero, List.set_cons_succ]
      refine wpZ_f _ (.int .i64 (i : Int)) rfl rfl (fun X _ => by simp [go_sem]) ?_
      simp only [List.getElem_toArray, List.getElem_cons_zero, List.getElem_cons_succ, Act.put, List.setIfInBounds_toArray, List.set_cons_zero, List.set_cons_succ]
      refine wpZ_f _ (.pointer (some ⟨R1.bb, i * 2, none⟩)) rfl rfl (fun X _ => by simp [go_sem, i1]) ?_
      simp only [List.getElem_toArray, List.getElem_cons_zero, List.getElem_cons_succ, Act.put, List.setIfInBounds_toArray, List.set_cons_zero, List.set_cons_succ]
      refine wpZ_call _ rfl rfl (by simp [go_sem]) ((kh.out).mono ?_)
      rintro e w1 ⟨rfl, hX1⟩
      refine ⟨_, rfl, fun X => Ext w1 X, .inr fun X hX => Ext.trans hX1 hX, Ext.refl _, ?_⟩
      simp only [List.getElem_toArray, List.getElem_cons_zero, List.getElem_cons_succ, Act.put, List.setIfInBounds_toArray, List.set_cons_zero, List.set_cons_succ]
      have hS := hideit (hI.step (Ext.trans hD hX1))
      have hth : w1.there R1.bb (i * 2) 2 := by
        have h1 := (hI.rd.ext (Ext.trans hD hX1)).row.there
        intro j hj
        have h2 : i * 2 + j < (flK s i).N * 2 := by show i * 2 + j < s.N * 2; omega
        have := h1 (i * 2 + j) h2
        simpa using this
      generalize tx (hasF s i) = a at *
      refine wpZ_f _ (.agg (row 2 (bkI a (.slice none 0 0))).toArray) rfl rfl (fun X _ => by simp [go_sem]; rfl) ?_
      simp only [List.getElem_toArray, List.getElem_cons_zero, List.getElem_cons_succ, Act.put, List.setIfInBounds_toArray, List.set_cons_zero, List.set_cons_succ]
      refine wpZ_st _ (w1.setCells R1.bb (i * 2) (row 2 (bkI a (.slice none 0 0)))) rfl rfl (exec_storeP 63 (.tmp 24) (.tmp 23) rfl R1.bb (i * 2) 2 _ rfl rfl hth info63 fun j hj => by rcases (by omega : j = 0 ∨ j = 1) with rfl | rfl <;> rfl) (fun _ => True) (.inl (by simp)) trivial ?_
      simp only [List.getElem_toArray, List.getElem_cons_zero, List.getElem_cons_succ, Act.put]
      refine wpZ_nil ?_
      generalize w1.setCells R1.bb (i * 2) (row 2 (bkI a (.slice none 0 0))) = Y at *
      clear e0' hth kh hI hD hX1
      go_wp2
      exact ⟨⟨i + 1, _, by omega, by go_num, hS.out⟩, by simp [intOf]; omega⟩
    · obtain rfl : i = s.N := by omega
      have hR : RdM G x (flR s) stp cl R1 wr := hI.rd.congr rfl (fun m hm => if_pos hm) (fun m hm => if_pos hm) (fun m hm => rfl)
      have kd := rdid hR hp.out
      rw [hI.isB] at kd
      have hkW := hideit hI.keeps
      have hbb := hideit hI.isB
      replace kd := hideit kd
      clear hR hI
      go_upto_region 4 with (fail)
      refine wp_region_lit ?_
      refine wpList_run rfl (.int .i64 (s.N : Int)) (by simp [go_sem]) ?_
      simp only [Act.put, List.setIfInBounds_toArray, List.set_cons_zero, List.set_cons_succ]
      refine wpList_run rfl (.pointer (some ⟨x, 0, none⟩)) (by simp [go_sem]) ?_
      simp only [Act.put, List.setIfInBounds_toArray, List.set_cons_zero, List.set_cons_succ]
      refine wpList_run rfl (.pointer (some ⟨x, 0, none⟩)) (by simp [go_sem]) ?_
      simp only [Act.put, List.setIfInBounds_toArray, List.set_cons_zero, List.set_cons_succ]
      refine wpList_run rfl (.pointer (some ⟨x, 0, none⟩)) (by simp [go_sem]) ?_
      simp only [Act.put, List.setIfInBounds_toArray, List.set_cons_zero, List.set_cons_succ]
      refine wpList_run rfl (.slice (some ⟨R1.bb, 0, none⟩) s.N R1.cp) (by simp [go_sem, e0]) ?_
      simp only [Act.put, List.setIfInBounds_toArray, List.set_cons_zero, List.set_cons_succ]
      refine wpList_run rfl (.int .i64 (s.N : Int)) (by simp [go_sem]) ?_
      simp only [Act.put, List.setIfInBounds_toArray, List.set_cons_zero, List.set_cons_succ]
      refine wpList_run rfl (.bool false) (by simp [go_sem]) ?_
      simp only [Act.put, List.setIfInBounds_toArray, List.set_cons_zero, List.set_cons_succ]
      clear e0
      go_upto_region 7 with (fail)
      refine wp_region_lit ?_
      refine wpList_run rfl (.pointer (some ⟨x, 0, none⟩)) (by simp [go_sem]) ?_
      simp only [Act.put, List.setIfInBounds_toArray, List.set_cons_zero, List.set_cons_succ]
      refine wpList_call rfl (by simp [go_sem]) ((kd.out).mono ?_)
      rintro e w2 ⟨rfl, h2, k2⟩
      refine ⟨_, rfl, ?_⟩
      simp only [Act.put, List.setIfInBounds_toArray, List.set_cons_zero, List.set_cons_succ]
      refine wpList_run rfl (.int .i64 0) (by simp [go_sem]) ?_
      simp only [Act.put, List.setIfInBounds_toArray, List.set_cons_zero, List.set_cons_succ]
      have hF := hideit (And.intro h2 (hkW.out.trans (F' := fun i => i = x ∨ i = R.bb) k2 fun i hi => .inl hi))
      clear kd h2 k2 hkW
      go_wp2
      go_ret
      exact ⟨rfl, R1, hbb.out, hF.out.1, hF.out.2⟩
end
end Go.Proofs.Ytfaeieaelfjlpaa
