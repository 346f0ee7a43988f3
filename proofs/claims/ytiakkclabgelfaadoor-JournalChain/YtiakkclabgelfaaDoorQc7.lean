/-
  Cells copied into a row; a whole array loaded in a region that draws its order; bytes that lie behind an address. Write: bytes come behind, for every Hash, all bytes, in every world; nothing else turns.
-/
import Derived.Test.YtiakkclabgelfaaDoorQc6
import Derived.Laws.IdiomCopy
import Derived.Test.YtiakkclabgelfaaDoorQc1
import Derived.Deep.CutRange
namespace Go.Proofs.YtiakkclabgelfaaDoor
open Go.RowKit Go.BigFrame
def LieAt (a : Addr) (n : Nat) (g : Nat → Value) (w : World) : Prop := (∀ j, j < n → w.cell? (a.add j) = some (g j)) ∧ a.block < w.heap.size
theorem LieAt.below {a : Addr} {n B : Nat} {g : Nat → Value} {w X : World} (h : LieAt a n g w) (hb : a.block < B) (hB : Below B w X) : LieAt a n g X :=
  ⟨fun j hj => (hB.cell (p := a.add j) (by unfold Addr.add; split <;> exact hb)).trans (h.1 j hj), Nat.lt_of_lt_of_le h.2 hB.size⟩
theorem LieAt.carry {a : Addr} {n : Nat} {g : Nat → Value} {w X : World} (h : LieAt a n g w) (hB : Ext w X) : LieAt a n g X := h.below h.2 hB
theorem add_block (a : Addr) (j : Nat) : (a.add j).block = a.block := by unfold Addr.add; split <;> rfl
theorem LieAt.but {a : Addr} {n c : Nat} {g : Nat → Value} {w X : World} (h : LieAt a n g w) (hB : But c w X) (hne : a.block ≠ c) : LieAt a n g X :=
  ⟨fun j hj => (hB.cell (a.add j) (by rw [add_block]; exact h.2) (by rw [add_block]; exact hne)).trans (h.1 j hj), Nat.lt_of_lt_of_le h.2 hB.size⟩
theorem RowAt.part {b n : Nat} {g : Nat → Value} {w : World} (h : RowAt b n g w) (off m : Nat) (u : Nat → Value) (hm : off + m ≤ n) : RowAt b n (fun j => if off ≤ j ∧ j < off + m then u (j - off) else g j) (w.setCells b off (row m u)) := by
  refine ⟨fun j hj => ?_, fun j hj => ?_, ?_⟩
  · show (w.setCells b off (row m u)).cell? ⟨b, j, none⟩ = some (if off ≤ j ∧ j < off + m then u (j - off) else g j)
    by_cases hin : off ≤ j ∧ j < off + m
    · rw [if_pos hin]
      have h1 := World.cell?_setCells_in b (row m u) off w (fun i hi => by
        rw [row_length] at hi
        rw [h.1 (off + i) (by omega)]; rfl) (j - off) (by rw [row_length]; omega)
      rw [show off + (j - off) = j by omega] at h1
      rw [h1]
      congr 1
      have h2 := row_get m u (j - off) (by omega)
      rw [List.getElem?_eq_getElem (by rw [row_length]; omega)] at h2
      exact Option.some.inj h2
    · rw [if_neg hin, World.cell?_setCells_out b (row m u) off w ⟨b, j, none⟩ (fun _ _ => by rw [row_length]; show j < off ∨ off + m ≤ j; omega)]
      exact h.1 j hj
  · rw [World.frozen?_setCells]; exact h.2.1 j hj
  · rw [size_setCells]; exact h.2.2
theorem wpList_copy_row {P : Program} {w : World} {ops : Array Oper} {rest : List Oper} {o : Oper} {a : Act} {Q : Exit → Act → World → Prop} (hgd : o.guard = none) (d s : Operand) (dT sT : TypeId)
    (ho : o.op = .call { callee := .builtin .copy, args := #[d, s], argTypes := #[dT, sT] }) (elem : TypeId) (hu : P.underlying dT = some (.slice elem)) (hsz : (P.info? elem).map (·.size) = some 1)
    (b n : Nat) (g : Nat → Value) (hR : RowAt b n g w) (off dLen dCap : Nat) (ad : Addr) (sLen sCap : Nat) (hd : a.eval d = .slice (some ⟨b, off, none⟩) dLen dCap) (hs : a.eval s = .slice (some ad) sLen sCap)
    (m : Nat) (u : Nat → Value) (hn : m = Nat.min sLen dLen) (hsrc : ∀ j, j < m → w.cell? (ad.add j) = some (u j)) (hfit : off + m ≤ n) (h1 : ∀ j, j < m → (u j).oneCell' = true)
    (h : wpList P ops Q rest (a.put o.dst (goInt m)) (w.setCells b off (row m u))) : wpList P ops Q (o :: rest) a w := by
  refine wpList_plain hgd fun K hK => ?_
  have hrun := run_copy_cells (P := P) w dT sT o.type elem b off dLen dCap ad sLen sCap (row m u) hu hsz (by rw [row_length]; exact hn) (fun j v hv => by obtain ⟨hj, rfl⟩ := row_some hv; exact hsrc j hj)
    (fun j hj => by rw [row_length] at hj; rw [hR.1 (off + j) (by omega)]; rfl) (fun j hj => by rw [row_length] at hj; exact hR.2.1 (off + j) (by omega)) (fun v hv => by
      obtain ⟨j, hj, rfl⟩ := List.mem_map.1 hv
      exact h1 j (by simpa using hj))
  rw [row_length] at hrun
  unfold Oper.wp
  simp [execOp, ho, resolve, invoke, builtin, hd, hs, hrun, Result.andThen]
  exact hK _ _ h
theorem loadQ {P : Program} {W : World} {K : Act → Prop} {op : Oper} {a : Act} (t : TypeId) (x : Operand) (b off n : Nat) (g : Nat → Value) {d : TypeDesc} (ho : op.op = .load t x) (hx : a.eval x = .pointer (some ⟨b, off, none⟩)) (hc : ∀ w', Ext W w' → w'.rangeAt b off (row n g))
    (hu : P.underlying t = some d) (hd : d.isRow = true) (hi : (P.info? t).map (·.size) = some n)
    (h : K (a.put op.dst (.agg (row n g).toArray))) : op.quiet P a (fun w' => ∃ k : Kept (Ext W), w' = k.w) K :=
  ⟨_, fun w hw => by
    obtain ⟨k, rfl⟩ := hw
    unfold Oper.quietAt execOp
    simp only [ho, hx, Instr.loadAt, Instr.sureAddr, Sem.run_bind, Sem.run_pure, Result.andThen_ok, run_loadVar_mid (P := P) k.w b off t (row n g) _ (hc _ k.ok) hu hd (by rw [row_length]; exact hi)]
    exact ⟨rfl, rfl⟩, h⟩
end Go.Proofs.YtiakkclabgelfaaDoor
namespace Go.Proofs.YtiakkclabgelfaaDoor
open Go.RowKit Go.BigFrame
def chain (m : Nat → BitVec 8) : Nat → Nat → BitVec 32
  | 0 => fT
  | k + 1 => blockF (chain m k) (fun j => m (64 * k + j))
def pend (m : Nat → BitVec 8) (n j : Nat) : BitVec 8 := if 64 * (n / 64) + j < n then m (64 * (n / 64) + j) else 0#8
def HashOf (c : Nat) (m : Nat → BitVec 8) (n : Nat) (w : World) : Prop := HashAt c (chain m (n / 64)) (pend m n) n w
def catF (m : Nat → BitVec 8) (n : Nat) (b : Nat → BitVec 8) (j : Nat) : BitVec 8 := if j < n then m j else b (j - n)
theorem chain_congr {m m' : Nat → BitVec 8} : ∀ k, (∀ j, j < 64 * k → m j = m' j) → chain m k = chain m' k
  | 0, _ => rfl
  | k + 1, h => by
    have h1 := chain_congr k (fun j hj => h j (by omega))
    have h2 : ∀ s : Nat → BitVec 32, blockF s (fun j => m (64 * k + j)) = blockF s (fun j => m' (64 * k + j)) := by
      intro s
      have hw : wordsW (fun j => m (64 * k + j)) = wordsW (fun j => m' (64 * k + j)) := by
        unfold wordsW
        generalize 48 = q
        induction q with
        | zero =>
          funext j
          simp only [wK]
          split
          · unfold w0
            simp only [beK]
            rw [h _ (by omega), h _ (by omega), h _ (by omega), h _ (by omega)]
          · rfl
        | succ q ih => funext j; simp only [wK]; rw [ih]
      funext j
      unfold blockF
      rw [hw]
    simp only [chain]
    rw [h1, h2]
theorem HashOf.congr {c n : Nat} {m m' : Nat → BitVec 8} {w : World} (h : HashOf c m n w) (e : ∀ j, j < n → m j = m' j) : HashOf c m' n w := by
  unfold HashOf at h ⊢
  rw [← chain_congr (n / 64) (fun j hj => e j (by omega))]
  have hp : pend m' n = pend m n := by
    funext j
    unfold pend
    split
    · rw [e _ ‹_›]
    · rfl
  rw [hp]
  exact h
section
variable {c n : Nat} {s : Nat → BitVec 32} {p : Nat → BitVec 8} {X : World}
theorem HashAt.setState (h : HashAt c s p n X) (s' : Nat → BitVec 32) : HashAt c s' p n (X.setCells c 0 (row 8 (wv s'))) :=
  (RowAt.part h 0 8 _ (by omega)).congr fun j _ => by
    by_cases hj : j < 8
    · rw [if_pos (by omega)]; simp only [hv, if_pos hj, Nat.sub_zero]
    · rw [if_neg (by omega)]; simp only [hv, if_neg hj]
theorem HashAt.setPiece (h : HashAt c s p n X) (k t : Nat) (hk : k + t ≤ 64) (u p' : Nat → BitVec 8) (hp : ∀ j, j < 64 → p' j = if k ≤ j ∧ j < k + t then u (j - k) else p j) : HashAt c s p' n (X.setCells c (8 + k) (row t (yv u))) :=
  (RowAt.part h (8 + k) t _ (by omega)).congr fun j hj73 => by
    by_cases hj : j < 8
    · rw [if_neg (by omega)]; simp only [hv, if_pos hj]
    · by_cases hj2 : j < 72
      · simp only [hv, if_neg hj, if_pos hj2, yv, hp (j - 8) (by omega)]
        by_cases hin : 8 + k ≤ j ∧ j < 8 + k + t
        · rw [if_pos hin, if_pos (by omega), show j - (8 + k) = j - 8 - k by omega]
        · rw [if_neg hin, if_neg (by omega)]
      · rw [if_neg (by omega)]; simp only [hv, if_neg hj, if_neg hj2]
theorem HashAt.setLen (h : HashAt c s p n X) (n' : Nat) : HashAt c s p n' (X.setCell ⟨c, 72, none⟩ (.int .i64 (n' : Int))) :=
  (RowAt.set h 72 _).congr fun j hj => by
    by_cases e : j = 72
    · subst e; rw [if_pos rfl]; rfl
    · rw [if_neg e]
      unfold hv
      split
      · rfl
      · rw [if_pos (by omega), if_pos (by omega)]
end
theorem HashAt.congrP {c n : Nat} {s : Nat → BitVec 32} {p p' : Nat → BitVec 8} {X : World} (h : HashAt c s p n X) (e : ∀ j, j < 64 → p j = p' j) : HashAt c s p' n X :=
  RowAt.congr h fun j hj => by
    unfold hv
    split
    · rfl
    · split
      · simp only [yv, e (j - 8) (by omega)]
      · rfl
theorem TabC.but {c : Nat} {w X : World} (h : TabC w) (k : But c w X) (hc : c ≠ 0) : TabC X :=
  ⟨fun j hj => (k.cell ⟨0, j, none⟩ h.2 (Ne.symm hc)).trans (h.1 j hj), Nat.lt_of_lt_of_le h.2 k.size⟩
theorem RowAt.thereSub {b n : Nat} {g : Nat → Value} {w : World} (h : RowAt b n g w) (off m : Nat) (hm : off + m ≤ n) : w.there b off m := fun j hj => by
  have h1 := h.1 (off + j) (by omega)
  have h2 := h.2.1 (off + j) (by omega)
  simp [h1, h2]
theorem cutP (c k : Nat) (hk : k < 64) (X : World) : Sem.run Tryd.prog (Instr.sliceAt 134 (.pointer (some ⟨c, 8, none⟩)) (some (.int .i64 (k : Int))) none none) X = .ok (.slice (some ⟨c, 8 + k, none⟩) (64 - k) (64 - k)) X := by
  have h1 : Tryd.prog.arrayLen 134 = 64 := by kernel_rfl
  have h2 : Tryd.prog.elem 134 = 5 := by kernel_rfl
  rw [run_sliceAt_array_l X 134 ⟨c, 8, none⟩ (by rw [h1, h2]; exact Tryd.underlying134) .i64 (k : Int) (by omega) (by rw [h1]; omega)]
  rw [h1, h2, show (sizeOf 5).run Tryd.prog X = .ok 1 X by kernel_rfl]
  simp only [Result.andThen_ok, slicedAt, Int.toNat_natCast, Nat.mul_one]
  rw [if_neg (by omega)]
  unfold Addr.add
  split
  · rename_i h0; subst h0; rfl
  · rfl
theorem info5 : (Tryd.prog.info? 5).map (·.size) = some 1 := by kernel_rfl
theorem zbuild29 (X : World) : (Instr.build 134 #[]).run Tryd.prog X = .ok (.agg (row 64 (yv fun _ => 0#8)).toArray) X := by kernel_rfl
def restOf (v : Value) : Nat := match v with | .slice _ n _ => n | _ => 0
def RestAt (w : World) (blk l : Nat) (b : Nat → BitVec 8) (i : Nat) (v : Value) : Prop := ∃ ad cp, v = .slice (some ad) (l - i) cp ∧ l - i ≤ cp ∧ ad.block = blk ∧ LieAt ad (l - i) (yv fun j => b (i + j)) w
theorem add_add (a : Addr) (i j : Nat) : (a.add i).add j = a.add (i + j) := by
  unfold Addr.add
  by_cases hi : i = 0
  · subst hi; simp
  · rw [if_neg hi]
    by_cases hj : j = 0
    · subst hj; simp [hi]
    · rw [if_neg hj, if_neg (by omega)]; simp; omega
set_option maxRecDepth 20000 in
set_option maxHeartbeats 2000000 in
theorem write_any (c n l cap : Nat) (m b : Nat → BitVec 8) (a : Addr) (w : World) (h : HashOf c m n w) (hC : TabC w) (hb : LieAt a l (yv b) w) (hcap : l ≤ cap) (hbc : a.block ≠ c) (hc0 : c ≠ 0) (hN : n + l < 4611686018427387904) :
    Calls Tryd.prog 75 #[.pointer (some ⟨c, 0, none⟩), .slice (some a) l cap] w fun e w' => e = .returned (.tuple #[]) ∧ HashOf c (catF m n b) (n + l) w' ∧ But c w w' := by
  obtain ⟨M, hM⟩ : ∃ M, M = catF m n b := ⟨_, rfl⟩
  have HH : HashOf c M (n + 0) w := by
    rw [hM]
    exact h.congr fun j hj => by unfold catF; rw [if_pos (by omega)]
  have HMb : Hid (∀ j, M (n + j) = b j) := fun j => by rw [hM]; unfold catF; rw [if_neg (by omega), Nat.add_sub_cancel_left]
  rw [← hM]
  clear h hM
  replace HH := hideit HH
  replace hC := hideit hC
  replace hb := hideit hb
  have HR0 : RestAt w a.block l b 0 (.slice (some a) l cap) := ⟨a, cap, by simp, by omega, rfl, ⟨fun j hj => by simpa using hb.out.1 j (by omega), hb.out.2⟩⟩
  replace HR0 := hideit HR0
  obtain ⟨blk, hblk⟩ : ∃ blk, blk = a.block := ⟨_, rfl⟩
  rw [← hblk] at HR0 hbc
  have HLT : Hid (blk < w.heap.size) := by rw [hblk]; exact hb.out.2
  clear hb hblk
  replace hN := hideit hN
  go_enter Tryd.func75, Tryd.ntmps75
  go_wp2
  go_loopw [1] (fun v wr => ∃ i : Nat, i ≤ l ∧ RestAt w blk l b i v ∧ HashOf c M (n + i) wr ∧ But c w wr) (fun v _ => restOf v)
  case atStart => exact ⟨0, by omega, HR0.out, HH.out, But.refl _ _⟩
  case round =>
    clear HR0 HH
    obtain ⟨i, hi, ⟨ad, cp, rfl, hcp, hab, hbs⟩, hT, hBt⟩ := hrel
    replace hbs := hideit hbs
    have HBt := hideit hBt
    have HT := hideit hT
    replace hab := hideit hab
    clear hBt hT
    by_cases hlt : i < l
    · obtain ⟨N, hNN⟩ : ∃ N, N = n + i := ⟨_, rfl⟩
      rw [← hNN] at HT
      replace hNN := hideit hNN
      generalize hr : l - i = r at *
      have r0 : (0 : Int) < (r : Int) := by omega
      have r1 : 0 < r := by omega
      replace hr := hideit hr
      obtain ⟨wt, hwt⟩ : ∃ wt, wt = N % 64 := ⟨_, rfl⟩
      have hwl : wt < 64 := by omega
      obtain ⟨t, ht⟩ : ∃ t, t = Nat.min r (64 - wt) := ⟨_, rfl⟩
      have ht1 : t ≤ r := by rw [ht]; exact Nat.min_le_left _ _
      have ht2 : wt + t ≤ 64 := by
        have h2 : t ≤ 64 - wt := by rw [ht]; exact Nat.min_le_right _ _
        omega
      have ht0 : 0 < t := by rw [ht]; exact Nat.lt_min.2 ⟨by omega, by omega⟩
      replace hwt := hideit hwt
      replace ht := hideit ht
      have hcut := cutP c wt hwl
      have hwq : Hid (∀ X, Ext wr.drew X → Calls Tryd.prog 90 #[.pointer (some ⟨c, 0, none⟩)] X fun e w' => e = .returned (.int .i64 (wt : Int)) ∧ Below X.heap.size X w') := fun X hX => by
        have hq := waiting_any c N _ _ X (RowAt.carry (RowAt.drew HT.out) hX)
        rw [← hwt.out] at hq
        exact hq.mono fun e w' h => ⟨h.1, by rw [h.2]; exact Below.refl _ _⟩
      have w0 : (0 : Int) ≤ (wt : Int) := by omega
      have w1 : (wt : Int) < 64 := by omega
      go_wp2
      have hne := kept_ne wr.drew
      refine wp_region_late 7 (by kernel_rfl) (by kernel_rfl) (by decide) ?_
      simp only [List.take_succ_cons, List.take_zero, List.drop_succ_cons, List.drop_zero]
      refine wpStrong_run 4 rfl ?_
      simp only [List.take_succ_cons, List.take_zero, List.drop_succ_cons, List.drop_zero]
      repeat (go_big_quiet_step (fail))
      refine wpQuiet_nil ?_
      refine wpStrong_call rfl (fun X => by simp [go_sem]) (fun X hX => hwq.out X hX) ?_
      simp only [zp0, zp1, zp2, zp3]
      refine wpStrong_run 2 rfl ?_
      simp only [List.take_succ_cons, List.take_zero, List.drop_succ_cons, List.drop_zero]
      repeat (go_big_quiet_step (fail))
      refine wpQuiet_nil ?_
      refine wpStrong_nil ?_
      intro X hX
      have HX : HashAt c (chain M (N / 64)) (pend M N) N X := RowAt.carry (RowAt.drew HT.out) hX
      replace HX := hideit HX
      have HBx := hideit (HBt.out.drew.ext hX)
      clear hX HT HBt hcut hne hwq
      refine wpList_copy_row rfl (.tmp 15) (.tmp 16) 39 39 rfl 5 Tryd.underlying39 info5 c 73 (hv (chain M (N / 64)) (pend M N) N) HX.out (8 + wt) (64 - wt) (64 - wt) ad r cp rfl rfl t (yv fun j => b (i + j)) ht.out (fun j hj => (hbs.out.but HBx.out (by rw [hab.out]; exact hbc)).1 j (by omega)) (by omega) (fun _ _ => rfl) ?_
      have HY : HashAt c (chain M (N / 64)) (fun j => if wt ≤ j ∧ j < wt + t then M (N + (j - wt)) else pend M N j) N (X.setCells c (8 + wt) (row t (yv fun j => b (i + j)))) := by
        refine HX.out.setPiece wt t ht2 _ _ fun j _ => ?_
        split
        · rw [← HMb.out, hNN.out, show n + (i + (j - wt)) = n + i + (j - wt) by omega]
        · rfl
      replace HY := hideit HY
      have HBy := hideit (But.sets (row t (yv fun j => b (i + j))) (8 + wt) _ HBx.out)
      clear HX HBx
      generalize X.setCells c (8 + wt) (row t (yv fun j => b (i + j))) = Y at *
      generalize hp1 : (fun j => if wt ≤ j ∧ j < wt + t then M (N + (j - wt)) else pend M N j) = p1 at *
      replace hp1 := hideit hp1
      have e72 := HY.out.len
      have g72 := HY.out.2.1 72 (by omega)
      have n1 : (N : Int) + (t : Int) ≤ 4611686018427387903 := by have := hN.out; have := hNN.out; have := hr.out; omega
      have n2 : (0 : Int) ≤ (N : Int) := by omega
      have n3 : (0 : Int) ≤ (t : Int) := by omega
      have n4 : (t : Int) ≤ (r : Int) := by omega
      simp only [zp0, zp1, zp2, zp3]
      go_upto_region 5 with (fail)
      have HR2 : RestAt w blk l b (i + t) (.slice (if cp = t then some ad else some (ad.add t)) (r - t) (cp - t)) := by
        have hr' := hr.out
        by_cases hct : cp = t
        · rw [if_pos hct]
          exact ⟨ad, cp - t, by rw [show l - (i + t) = r - t by omega], by omega, hab.out, ⟨fun j hj => by omega, hbs.out.2⟩⟩
        · rw [if_neg hct]
          refine ⟨ad.add t, cp - t, by rw [show l - (i + t) = r - t by omega], by omega, (add_block _ _).trans hab.out, ⟨fun j hj => ?_, by rw [add_block]; exact hbs.out.2⟩⟩
          rw [add_add, hbs.out.1 (t + j) (by omega)]
          simp only [yv, Nat.add_assoc]
      replace HR2 := hideit HR2
      generalize (Value.slice (if cp = t then some ad else some (ad.add t)) (r - t) (cp - t)) = sv at *
      have HZ : HashAt c (chain M (N / 64)) p1 (N + t) (Y.setCell ⟨c, 72, none⟩ (.int .i64 ((N : Int) + (t : Int)))) := HY.out.setLen (N + t)
      replace HZ := hideit HZ
      have HBz := hideit (HBy.out.set 72 (.int .i64 ((N : Int) + (t : Int))))
      clear HY HBy e72 g72
      generalize Y.setCell ⟨c, 72, none⟩ (.int .i64 ((N : Int) + (t : Int))) = Z at *
      have hwz := waiting_any c (N + t) _ _ Z HZ.out
      replace hwz := hideit hwz
      by_cases hful : (N + t) % 64 = 0
      · have hq0 : ((((N + t) % 64 : Nat) : Int) == 0) = true := by rw [hful]; rfl
        go_upto_region 6 with (go_at_call 90; refine hwz.out.mono ?_; rintro e w' ⟨rfl, hw'⟩; subst hw')
        obtain ⟨k, hk⟩ : ∃ k, k = N / 64 := ⟨_, rfl⟩
        have hNt : N + t = 64 * k + 64 := by have := hwt.out; omega
        have HZ2 : HashAt c (chain M k) (fun j => M (64 * k + j)) (N + t) w' := by
          rw [hk]
          refine HZ.out.congrP fun j hj => ?_
          rw [← hp1.out]
          show (if wt ≤ j ∧ j < wt + t then M (N + (j - wt)) else pend M N j) = _
          have hw' := hwt.out
          by_cases hin : wt ≤ j ∧ j < wt + t
          · rw [if_pos hin, show N + (j - wt) = 64 * (N / 64) + j by omega]
          · rw [if_neg hin]
            unfold pend
            rw [if_pos (by omega)]
        replace HZ2 := hideit HZ2
        replace hk := hideit hk
        replace hNt := hideit hNt
        clear HZ hwz
        obtain ⟨p2, hp2⟩ : ∃ p2, p2 = fun j => M (64 * k + j) := ⟨_, rfl⟩
        rw [← hp2] at HZ2
        obtain ⟨s1, hs1⟩ : ∃ s1, s1 = chain M (k + 1) := ⟨_, rfl⟩
        have hblk := block_any (chain M k) p2
        have hs2 : blockF (chain M k) p2 = s1 := by rw [hs1, hp2]; rfl
        rw [hs2] at hblk
        generalize hs0 : chain M k = s0 at *
        replace hblk := hideit hblk
        replace hs1 := hideit hs1
        clear hs2 hs0 hp2 hp1
        have hne := kept_ne w'.drew
        refine wp_region_late 12 (by kernel_rfl) (by kernel_rfl) (by decide) ?_
        simp only [List.take_succ_cons, List.take_zero, List.drop_succ_cons, List.drop_zero]
        refine wpStrong_run 9 rfl ?_
        simp only [List.take_succ_cons, List.take_zero, List.drop_succ_cons, List.drop_zero]
        go_big_quiet_step (fail)
        go_big_quiet_step (fail)
        go_big_quiet_step (fail)
        go_big_quiet_step (fail)
        go_big_quiet_want
        refine loadQ 132 (.tmp 35) c 0 8 (wv s0) rfl rfl (fun w' hw' => HashAt.state (RowAt.carry (RowAt.drew HZ2.out) hw')) Tryd.underlying132 rfl info28 ?_
        simp only [zp0, zp1, zp2, zp3]
        go_big_quiet_on
        go_big_quiet_step (fail)
        go_big_quiet_step (fail)
        go_big_quiet_step (fail)
        go_big_quiet_want
        refine loadQ 134 (.tmp 39) c 8 64 (yv p2) rfl rfl (fun w' hw' => HashAt.piece (RowAt.carry (RowAt.drew HZ2.out) hw')) Tryd.underlying134 rfl info29 ?_
        simp only [zp0, zp1, zp2, zp3]
        go_big_quiet_on
        refine wpQuiet_nil ?_
        refine wpStrong_call rfl (fun X => by simp [go_sem]) (fun X hX => hblk.out X (hC.out.but (HBz.out.drew.ext hX) hc0)) ?_
        simp only [zp0, zp1, zp2, zp3]
        refine wpStrong_run 2 rfl ?_
        simp only [List.take_succ_cons, List.take_zero, List.drop_succ_cons, List.drop_zero]
        repeat (go_big_quiet_step (fail))
        refine wpQuiet_nil ?_
        refine wpStrong_nil ?_
        intro X hX
        have HX : HashAt c s0 p2 (N + t) X := RowAt.carry (RowAt.drew HZ2.out) hX
        replace HX := hideit HX
        have HBx := hideit (HBz.out.drew.ext hX)
        clear hX HZ2 HBz hne hblk
        refine wpList_store_mid rfl 132 (.tmp 43) (.tmp 41) rfl c 0 (row 8 (wv s1)).toArray rfl rfl (by rw [row_size]; exact RowAt.thereSub HX.out 0 8 (by omega)) (by rw [row_size]; exact info28) (row_one fun _ _ => rfl) ?_
        have HY2 : HashAt c s1 p2 (N + t) (X.setCells c 0 (row 8 (wv s1))) := HX.out.setState s1
        replace HY2 := hideit HY2
        have HBy2 := hideit (But.sets (row 8 (wv s1)) 0 _ HBx.out)
        clear HX HBx
        generalize X.setCells c 0 (row 8 (wv s1)) = Y2 at *
        simp only [Act.put]
        go_upto_region 7 with (fail)
        refine wp_region_lit ?_
        refine wpList_run rfl (.pointer (some ⟨c, 0, none⟩)) (by simp [go_sem]) ?_
        refine wpList_build rfl 134 [] rfl _ (zbuild29 _) ?_
        simp only [zp0, zp1, zp2, zp3]
        go_wp2_with (refine wpList_store_mid rfl 134 (.tmp 47) (.tmp 45) rfl c 8 (row 64 (yv fun _ => 0#8)).toArray rfl rfl (by rw [row_size]; exact RowAt.thereSub HY2.out 8 64 (by omega)) (by rw [row_size]; exact info29) (row_one fun _ _ => rfl) ?_)
        have HFIN : HashOf c M (n + (i + t)) (Y2.setCells c 8 (row 64 (yv fun _ => 0#8))) := by
          have hNN' := hNN.out
          have hNt' := hNt.out
          unfold HashOf
          rw [show (n + (i + t)) / 64 = k + 1 by omega, show n + (i + t) = N + t by omega, ← hs1.out]
          refine (HY2.out.setPiece 0 64 (by omega) (fun _ => 0#8) (pend M (N + t)) fun j hj => ?_)
          rw [if_pos (by omega)]
          unfold pend
          rw [if_neg (by omega)]
        replace HFIN := hideit HFIN
        have HBF := hideit (But.sets (row 64 (yv fun _ => 0#8)) 8 _ HBy2.out)
        clear HY2 HBy2
        generalize Y2.setCells c 8 (row 64 (yv fun _ => 0#8)) = V at *
        go_wp2
        go_roundw
        case rel =>
          have HQ := HFIN.out
          first | exact ⟨(i + t : Nat), by have := hr.out; omega, HR2.out, HQ, HBF.out⟩ | ((repeat apply Exists.intro); exact ⟨⟨i + t, by have := hr.out; omega, HR2.out, HQ, HBF.out⟩, rfl⟩)
        case measure =>
          obtain ⟨ad2, cp2, hsv, _⟩ := HR2.out
          have hr' := hr.out
          subst hsv
          show l - (i + t) < r
          omega
      · have hq0 : ((((N + t) % 64 : Nat) : Int) == 0) = false := by
          rw [beq_eq_false_iff_ne]; omega
        go_wp2_with (go_at_call 90; refine hwz.out.mono ?_; rintro e w' ⟨rfl, hw'⟩; subst hw')
        have HFIN : HashOf c M (n + (i + t)) w' := by
          have hNN' := hNN.out
          have hw' := hwt.out
          unfold HashOf
          rw [show n + (i + t) = N + t by omega, show (N + t) / 64 = N / 64 by omega]
          refine HZ.out.congrP fun j hj => ?_
          rw [← hp1.out]
          show (if wt ≤ j ∧ j < wt + t then M (N + (j - wt)) else pend M N j) = _
          unfold pend
          rw [show (N + t) / 64 = N / 64 by omega]
          by_cases hin : wt ≤ j ∧ j < wt + t
          · rw [if_pos hin, if_pos (by omega), show N + (j - wt) = 64 * (N / 64) + j by omega]
          · rw [if_neg hin]
            by_cases h2 : 64 * (N / 64) + j < N
            · rw [if_pos h2, if_pos (by omega)]
            · rw [if_neg h2, if_neg (by omega)]
        replace HFIN := hideit HFIN
        have HBF := HBz
        go_roundw
        case rel =>
          have HQ := HFIN.out
          first | exact ⟨(i + t : Nat), by have := hr.out; omega, HR2.out, HQ, HBF.out⟩ | ((repeat apply Exists.intro); exact ⟨⟨i + t, by have := hr.out; omega, HR2.out, HQ, HBF.out⟩, rfl⟩)
        case measure =>
          obtain ⟨ad2, cp2, hsv, _⟩ := HR2.out
          have hr' := hr.out
          subst hsv
          show l - (i + t) < r
          omega
    · obtain rfl : i = l := by omega
      go_wp2
      exact bodyPost_end (v := .tuple #[]) (by simp [results, Tryd.results75]) rfl ⟨rfl, HT.out, HBt.out⟩
end Go.Proofs.YtiakkclabgelfaaDoor
