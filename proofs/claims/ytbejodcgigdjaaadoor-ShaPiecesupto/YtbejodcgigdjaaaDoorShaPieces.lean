/-
  For every list of slices of bytes that holds at most 1048576 values in all (the second form: arguments of bulk at most 1048576) the law ShaPieces returns true, and its argument reads behind the call as it read before; the package-level table of constants is laid as the program text lays it.
-/
import Derived.Test.YtbejodcgigdjaaaDoorCards
import Derived.Test.YtbejodcgigdjaaaDoorTie
import Derived.WalkKit
import Derived.ProofKit
import Derived.OpenShut
import Derived.ShutString
import Derived.ChangeOld
import Derived.Below
import Derived.Deep.DeepHandedRow
import Derived.Lib.LaidTab
import Derived.Test.YtbejodcgigdjaaaDoorPieces
namespace Go.Proofs.YtbejodcgigdjaaaDoor.shaPieces
open Go.ChangeShapes Go.WideShapes Go.ChangeAt Go.RowKit
set_option linter.unusedVariables false

theorem own : ownKnob Tryd.prog.godebug = none := by kernel_rfl
theorem laidOut : laidOutB Tryd.prog = true := by kernel_rfl
theorem gTab : Tryd.prog.globalNamed "casket/sha.constants" = some 0 := by kernel_rfl
theorem gTabType : (Tryd.prog.globals[0]?).map (·.type) = some 42 := by kernel_rfl
theorem cellsG : Tryd.prog.cellsOf 42 = 64 := by kernel_rfl
theorem cellsE : Tryd.prog.cellsOf 27 = 1 := by kernel_rfl
def tabL : List Int := [1116352408, 1899447441, 3049323471, 3921009573, 961987163, 1508970993, 2453635748, 2870763221, 3624381080, 310598401, 607225278, 1426881987, 1925078388, 2162078206, 2614888103, 3248222580, 3835390401, 4022224774, 264347078, 604807628, 770255983, 1249150122, 1555081692, 1996064986, 2554220882, 2821834349, 2952996808, 3210313671, 3336571891, 3584528711, 113926993, 338241895, 666307205, 773529912, 1294757372, 1396182291, 1695183700, 1986661051, 2177026350, 2456956037, 2730485921, 2820302411, 3259730800, 3345764771, 3516065817, 3600352804, 4094571909, 275423344, 430227734, 506948616, 659060556, 883997877, 958139571, 1322822218, 1537002063, 1747873779, 1955562222, 2024104815, 2227730452, 2361852424, 2428436474, 2756734187, 3204031479, 3329325298]
theorem table {W : World} (h : laidMetH Tryd.prog Rows.shaPiecesUptoRow.laid W) : Lib.TabIs Tryd.prog W "casket/sha.constants" .u32 tabL :=
  Lib.tabIs_of_head (rest := []) gTab gTabType Tryd.underlying42 Tryd.underlying27 cellsE cellsG h
theorem tab_kT : ∀ j, j < 64 → tabL.getD j 0 = ((kT j).toNat : Int) := by decide +kernel
theorem tabC {W : World} (h : laidMetH Tryd.prog Rows.shaPiecesUptoRow.laid W) (h0 : 0 < W.heap.size) : TabC W :=
  ⟨fun j hj => by
    rw [← tab_kT j hj]
    exact (table h).cell gTab j hj, h0⟩

open Go.BigFrame
def M (ls : Nat → Nat) (bs : Nat → Nat → BitVec 8) : Nat → Nat → BitVec 8
  | 0 => fun _ => 0#8
  | i + 1 => catF (M ls bs i) (sumL ls i) (bs i)
theorem sumL_mono (ls : Nat → Nat) (i n : Nat) (h : i ≤ n) : sumL ls i ≤ sumL ls n := by
  induction n with
  | zero => obtain rfl : i = 0 := by omega
            exact Nat.le_refl _
  | succ n ih =>
    rcases Nat.lt_or_ge n i with h1 | h1
    · obtain rfl : i = n + 1 := by omega
      exact Nat.le_refl _
    · have := ih h1
      simp only [sumL]
      omega
theorem growP {ops : Array Oper} {rest : List Oper} {o : Oper} {a : Act} {Q : Exit → Act → World → Prop} {base n m : Nat} {v u : Value} {f b : Nat → BitVec 8} {w : World} (hgd : o.guard = none) (s x : Operand)
    (ho : o.op = .call { callee := .builtin .append, args := #[s, x], argTypes := #[22, 22] }) (hs : a.eval s = v) (hown : OwnB base 5 v n (yv f) w) (hx : a.eval x = u) (hP : PV u m b w) (hb : n + m ≤ 140737488355328) (hbase : base ≤ w.heap.size)
    (h : ∀ v' w', OwnB base 5 v' (n + m) (yv (catF f n b)) w' → w.grownBy w' v.ownBlock → (v' = .slice none 0 0 ↔ v = .slice none 0 0 ∧ m = 0) → wpList Tryd.prog ops Q rest (a.put o.dst v') w') : wpList Tryd.prog ops Q (o :: rest) a w := by
  obtain ⟨i, z, e1, e2, e3, e4, e5⟩ := elem22.info
  have h1 : ∀ j, j < n → yv f j = yv (catF f n b) j := fun j hj => by simp only [yv]; unfold catF; rw [if_pos hj]
  rcases hP with ⟨rfl, rfl⟩ | ⟨ad, cap, rfl, h2, h3⟩
  · refine wpList_grow_none (v := v) elem22 hgd s x ho hs hown hx (h v w (hown.congr h1) ⟨rfl, rfl, rfl, Nat.le_refl _, fun _ _ _ => rfl⟩ (by simp))
  · refine wpList_append_own w hgd s x 22 ho base 5 i z 1 1 elem22.slice e1 e2 e3 e4 e5 (by decide) v n (row n (yv f)) hs hown ad m cap (row m (yv b)) hx (by rw [row_length]; omega) (fun j w0 hj => ?_) (fun w0 hw0 => ?_) (by unfold maxLen; omega) (by omega) hbase fun v' w' k2 k3 k4 => h v' w' ?_ k3 k4
    · obtain ⟨hj', rfl⟩ := row_some hj
      exact h3 j hj'
    · obtain ⟨j, hj, rfl⟩ := List.mem_map.1 hw0
      rfl
    · unfold OwnB
      rwa [row_append n m (yv f) (yv b) (yv (catF f n b)) h1 (fun j hj => by simp only [yv]; unfold catF; rw [if_neg (by omega), Nat.add_sub_cancel_left])] at k2
theorem own_ne {base n c k : Nat} {v : Value} {f p : Nat → BitVec 8} {s : Nat → BitVec 32} {w : World} (h : OwnB base 5 v n (yv f) w) (h0 : n = 0 → v = .slice none 0 0) (hh : HashAt c s p k w) : v.ownBlock ≠ some c := by
  rcases Nat.eq_zero_or_pos n with e | e
  · rw [h0 e]; simp [Value.ownBlock]
  · obtain ⟨g, cap, rfl, _, _, _, hR⟩ := h.lies e
    intro hg
    simp only [Value.ownBlock, Option.some.injEq] at hg
    have h1 := hR.1 0 e
    have h2 := hh.1 0 (by omega)
    rw [hg, h2] at h1
    simp only [hv, yv, wv] at h1
    cases h1
theorem own_form {base n : Nat} {v : Value} {f : Nat → BitVec 8} {w : World} (h : OwnB base 5 v n (yv f) w) : ∃ oa cp, v = .slice oa n cp := by
  rcases h.2 with ⟨rfl, rfl⟩ | ⟨g, cap, _, rfl, _⟩
  · exact ⟨none, 0, rfl⟩
  · exact ⟨_, cap, rfl⟩
theorem neq24 (f : Nat → BitVec 8) (w : World) : (binOp .neq 24 (.agg (row 32 (yv f)).toArray) (.agg (row 32 (yv f)).toArray)).run Tryd.prog w = .ok (.bool false) w := by
  have h := eq24 f w
  rw [run_eql_struct] at h
  rw [run_neq_struct]
  cases hh : (Op.equalIn 10000 24 (.agg (row 32 (yv f)).toArray) (.agg (row 32 (yv f)).toArray)).run Tryd.prog w with
  | ok b w' =>
    rw [hh] at h
    simp only [Result.andThen_ok, Result.ok.injEq, Value.bool.injEq] at h ⊢
    exact ⟨by rw [h.1]; rfl, h.2⟩
  | halt x w' => rw [hh] at h; simp at h
/-- a Hash and bytes of the law's own that are the same so far -/
def PS (w : World) (m : Nat → BitVec 8) (k c : Nat) (v : Value) (X : World) : Prop := HashOf c m k X ∧ OwnB w.heap.size 5 v k (yv m) X ∧ (k = 0 → v = .slice none 0 0) ∧ Ext w X ∧ w.heap.size ≤ c
theorem grown_ext {w X Y : World} {row : Option Nat} (h : Ext w X) (hg : X.grownBy Y row) (hr : ∀ k, row = some k → w.heap.size ≤ k) : Ext w Y := Below.trans h (below_grown (Below.size h) hg hr)
theorem PS.ext {w X Y : World} {m : Nat → BitVec 8} {k c : Nat} {v : Value} (h : PS w m k c v X) (e : Ext X Y) : PS w m k c v Y := ⟨RowAt.carry h.1 e, h.2.1.ext e, h.2.2.1, Ext.trans h.2.2.2.1 e, h.2.2.2.2⟩
set_option maxRecDepth 20000 in
set_option maxHeartbeats 4000000 in
theorem walk_some (ab ao n cap : Nat) (us : Nat → Value) (ls : Nat → Nat) (bs : Nat → Nat → BitVec 8) (w : World) (hU : ∀ i, i < n → w.cell? ⟨ab, ao + i, none⟩ = some (us i) ∧ PV (us i) (ls i) (bs i) w) (hT : sumL ls n ≤ 1048576) (hn : n ≤ 1048576) (hC : TabC w) :
    Calls Tryd.prog 5 #[.slice (some ⟨ab, ao, none⟩) n cap] w fun e w' => e = .returned (.bool true) ∧ Below w.heap.size w w' := by
  replace hC := hideit hC
  replace hU := hideit hU
  replace hT := hideit hT
  have hn2 : (n : Int) ≤ 1048576 := by omega
  go_enter Tryd.func5, Tryd.ntmps5
  go_upto_region 2 with (go_at_call 16; refine (new_any _).mono ?_; rintro e w2 ⟨c, hc, rfl, hH, hE2⟩; have HH := hideit hH; have HE2 := hideit hE2; clear hH hE2)
  go_upto_region 4 with (go_at_call 9; refine (lives_any _ (hC.out.ext HE2.out)).mono ?_; rintro e w3 ⟨rfl, hw3⟩; have HE3 := hideit (Ext.trans HE2.out hw3); have HH3 := hideit (RowAt.carry HH.out hw3); clear hw3 HE2 HH)
  have HS0 : PS w (M ls bs 0) (sumL ls 0) c (.slice none 0 0) w3 := by
    refine ⟨?_, own_nil _ _ _ _, fun _ => rfl, HE3.out, hc⟩
    show HashAt c (chain _ (0 / 64)) (pend _ 0) 0 w3
    rw [pend_zero]
    exact HH3.out
  replace HS0 := hideit HS0
  clear HE3 HH3
  go_wp2
  go_loopw [3, 4, 5] (fun hp v iv wr => ∃ i : Nat, i ≤ n ∧ iv = .int .i64 (i : Int) ∧ ∃ c : Nat, hp = .pointer (some ⟨c, 0, none⟩) ∧ PS w (M ls bs i) (sumL ls i) c v wr) (fun _ _ iv _ => n - (intOf iv).toNat)
  case atStart => exact ⟨0, by omega, rfl, c, rfl, HS0.out⟩
  case round =>
    clear HS0
    obtain ⟨i, hi, rfl, c', rfl, hS⟩ := hrel
    have HS := hideit hS
    clear hS
    by_cases hlt : i < n
    · have i0 : (0 : Int) ≤ (i : Int) := by omega
      have i1 : (i : Int) < (n : Int) := by omega
      by_cases hf : i % 3 = 2
      · have hf1 : (((i : Int) % 3) == 2) = true := by rw [beq_iff_eq]; omega
        go_upto_region 10 with (go_at_call 17; refine (fork_any c' _ _ _ _ HS.out.1).mono ?_; rintro e w4 ⟨d, hd, rfl, hH, hE4⟩; have HD := hideit hH; have HS4 := hideit (HS.out.ext hE4); have hcd : c' < d := Nat.lt_of_lt_of_le HS.out.1.2.2 hd; clear hH hE4 HS hd)
        have hcv : (convert 22 22 (.slice (some ⟨w4.heap.size, 0, none⟩) 5 5)).run Tryd.prog (w4.alloc (.cells #[.int .u8 111, .int .u8 116, .int .u8 104, .int .u8 101, .int .u8 114] 5)) = .ok (.slice (some ⟨w4.heap.size, 0, none⟩) 5 5) (w4.alloc (.cells #[.int .u8 111, .int .u8 116, .int .u8 104, .int .u8 101, .int .u8 114] 5 (5, 6))) := mark_const w4 _ 5
        have hEa : Ext w4 (w4.alloc (.cells #[.int .u8 111, .int .u8 116, .int .u8 104, .int .u8 101, .int .u8 114] 5 (5, 6))) := (Below.refl _ _).alloc (Nat.le_refl _) _
        have HS5 := hideit (HS4.out.ext hEa)
        have HD5 := hideit (RowAt.carry HD.out hEa)
        have hwo := write_any c' (sumL ls i) 5 5 (M ls bs i) (fun j => BitVec.ofNat 8 ([111, 116, 104, 101, 114].getD j 0)) ⟨w4.heap.size, 0, none⟩ _ HS5.out.1 (hC.out.ext HS5.out.2.2.2.1) (lie_new w4 5 _ 5 _ _ (fun j hj => by
          rcases (by omega : j = 0 ∨ j = 1 ∨ j = 2 ∨ j = 3 ∨ j = 4) with rfl | rfl | rfl | rfl | rfl <;> rfl)) (Nat.le_refl _) (by have := HS4.out.1.2.2; show w4.heap.size ≠ c'; omega) (by have := hC.out.2; have := HS4.out.2.2.2.2; omega) (by have := sumL_mono ls i n hi; have := hT.out; omega)
        replace hwo := hideit hwo
        clear hEa HS4 HD
        go_upto_region 14 with (go_at_call 18; refine hwo.out.mono ?_; rintro e w6 ⟨rfl, hx6, hB6⟩; clear hx6; have HS6 : PS w (M ls bs i) (sumL ls i) d _ w6 := ⟨RowAt.but HD5.out hB6 (by omega), HS5.out.2.1.but hB6 (own_ne HS5.out.2.1 HS5.out.2.2.1 HS5.out.1), HS5.out.2.2.1, Ext.but HS5.out.2.2.2.1 hB6 HS5.out.2.2.2.2, by have := HS5.out.2.2.2.2; omega⟩; replace HS6 := hideit HS6; clear hB6 hwo HS5 HD5 hcv)
        have hT1 := hideit (sumL_mono ls (i + 1) n (by omega))
        have hwp := hideit (writeP d (sumL ls i) (ls i) (M ls bs i) (bs i) (us i) w w6 (hU.out i hlt).2 HS6.out.2.2.2.1 HS6.out.1 (hC.out.ext HS6.out.2.2.2.1) HS6.out.2.2.2.2 (by have := hC.out.2; have := HS6.out.2.2.2.2; omega) (by have := hT1.out; have := hT.out; simp only [sumL] at *; omega))
        have hcl := hideit (fun (X : World) (hX : Ext w X) => cell_ext hX (hU.out i hlt).1)
        have eu := hcl.out w6 HS6.out.2.2.2.1
        go_upto_region 15 with (go_at_call 18; refine hwp.out.mono ?_; rintro e w7 ⟨rfl, h7, hB7⟩; have HO7 := hideit (HS6.out.2.1.but hB7 (own_ne HS6.out.2.1 HS6.out.2.2.1 HS6.out.1)); have HE7 := hideit (Ext.but HS6.out.2.2.2.1 hB7 HS6.out.2.2.2.2); have hz7 := hideit HS6.out.2.2.1; have hc7 := hideit HS6.out.2.2.2.2; have HH7 := hideit h7; clear h7 hB7 hwp HS6 eu)
        have eu7 := hcl.out w7 HE7.out
        have hP7 := hideit ((hU.out i hlt).2.ext HE7.out)
        have hne7 := hideit (own_ne HO7.out hz7.out HH7.out)
        go_upto_region 16 with (at_builtin; refine growP (n := sumL ls i) (m := ls i) (base := w.heap.size) rfl (.tmp 38) (.tmp 42) rfl rfl HO7.out rfl hP7.out (by have := hT1.out; have := hT.out; simp only [sumL] at *; omega) (Below.size HE7.out) ?_; intro v8 w8 ho hg hz; have HP : PS w (M ls bs (i + 1)) (sumL ls (i + 1)) d v8 w8 := ⟨RowAt.grown HH7.out hg (fun h => hne7.out h.symm), ho, fun h => hz.2 ⟨hz7.out (by simp only [sumL] at h; omega), by simp only [sumL] at h; omega⟩, grown_ext HE7.out hg (fun k hk => (HO7.out.lt k hk).1), hc7.out⟩; replace HP := hideit HP; clear ho hg hz HO7 HE7 HH7 hP7 hne7 hz7 eu7)
        obtain ⟨L, hL⟩ : ∃ L, L = sumL ls (i + 1) := ⟨_, rfl⟩
        rw [← hL] at HP
        have hLT : L ≤ 1048576 := by have := hT1.out; have := hT.out; omega
        obtain ⟨oa, cp, hv8⟩ := own_form HP.out.2.1
        subst hv8
        obtain ⟨R, hRR⟩ : ∃ R, R = shaF (M ls bs (i + 1)) L := ⟨_, rfl⟩
        have hs3 : ∀ X, Ext w8 X → Calls Tryd.prog 19 #[.pointer (some ⟨d, 0, none⟩)] X fun e w' => e = .returned (.agg (row 32 (yv R)).toArray) ∧ Below X.heap.size X w' := fun X hX => by
          rw [hRR]; exact sum_any d L _ X (RowAt.carry HP.out.1 hX) (hC.out.ext (Ext.trans HP.out.2.2.2.1 hX)) (by omega)
        have hs2 : ∀ X, Ext w8 X → Calls Tryd.prog 11 #[.slice oa L cp] X fun e w' => e = .returned (.agg (row 32 (yv R)).toArray) ∧ Below X.heap.size X w' := fun X hX => by
          rw [hRR]; exact rsumV _ L _ X ((OwnB.bv HP.out.2.1).ext hX) (by omega)
        have hs4 : ∀ X, Ext w8 X → Calls Tryd.prog 20 #[.pointer (some ⟨d, 0, none⟩)] X fun e w' => e = .returned (.int .i64 (L : Int)) ∧ w' = X := fun X hX => len_any d L _ _ X (RowAt.carry HP.out.1 hX)
        replace hs2 := hideit hs2
        replace hs3 := hideit hs3
        replace hs4 := hideit hs4
        replace hL := hideit hL
        have hq := neq24 R
        clear hRR
        have HX := hideit (Ext.refl w8)
        go_wp2_with (first | (go_at_call 19; refine (hs3.out _ HX.out).mono ?_; rintro e w9 ⟨rfl, hw9⟩; have HX9 := hideit (Ext.trans HX.out hw9); clear hw9) | (go_at_call 11; refine (hs2.out _ HX9.out).mono ?_; rintro e w10 ⟨rfl, hw10⟩; have HX10 := hideit (Ext.trans HX9.out hw10); clear hw10) | (go_at_call 20; refine (hs4.out _ HX10.out).mono ?_; rintro e w11 ⟨rfl, rfl⟩))
        refine ⟨⟨i + 1, by omega, by go_num, d, rfl, hL.out ▸ HP.out.ext HX10.out⟩, by simp [intOf]; omega⟩
      · have hf1 : (((i : Int) % 3) == 2) = false := by rw [beq_eq_false_iff_ne]; omega
        go_upto_region 14 with (fail)
        have hT1 := hideit (sumL_mono ls (i + 1) n (by omega))
        have hwp := hideit (writeP c' (sumL ls i) (ls i) (M ls bs i) (bs i) (us i) w wr (hU.out i hlt).2 HS.out.2.2.2.1 HS.out.1 (hC.out.ext HS.out.2.2.2.1) HS.out.2.2.2.2 (by have := hC.out.2; have := HS.out.2.2.2.2; omega) (by have := hT1.out; have := hT.out; simp only [sumL] at *; omega))
        have hcl := hideit (fun (X : World) (hX : Ext w X) => cell_ext hX (hU.out i hlt).1)
        have eu := hcl.out wr HS.out.2.2.2.1
        go_upto_region 15 with (go_at_call 18; refine hwp.out.mono ?_; rintro e w7 ⟨rfl, h7, hB7⟩; have HO7 := hideit (HS.out.2.1.but hB7 (own_ne HS.out.2.1 HS.out.2.2.1 HS.out.1)); have HE7 := hideit (Ext.but HS.out.2.2.2.1 hB7 HS.out.2.2.2.2); have hz7 := hideit HS.out.2.2.1; have hc7 := hideit HS.out.2.2.2.2; have HH7 := hideit h7; clear h7 hB7 hwp HS eu)
        have eu7 := hcl.out w7 HE7.out
        have hP7 := hideit ((hU.out i hlt).2.ext HE7.out)
        have hne7 := hideit (own_ne HO7.out hz7.out HH7.out)
        go_upto_region 16 with (at_builtin; refine growP (n := sumL ls i) (m := ls i) (base := w.heap.size) rfl (.tmp 38) (.tmp 42) rfl rfl HO7.out rfl hP7.out (by have := hT1.out; have := hT.out; simp only [sumL] at *; omega) (Below.size HE7.out) ?_; intro v8 w8 ho hg hz; have HP : PS w (M ls bs (i + 1)) (sumL ls (i + 1)) c' v8 w8 := ⟨RowAt.grown HH7.out hg (fun h => hne7.out h.symm), ho, fun h => hz.2 ⟨hz7.out (by simp only [sumL] at h; omega), by simp only [sumL] at h; omega⟩, grown_ext HE7.out hg (fun k hk => (HO7.out.lt k hk).1), hc7.out⟩; replace HP := hideit HP; clear ho hg hz HO7 HE7 HH7 hP7 hne7 hz7 eu7)
        obtain ⟨L, hL⟩ : ∃ L, L = sumL ls (i + 1) := ⟨_, rfl⟩
        rw [← hL] at HP
        have hLT : L ≤ 1048576 := by have := hT1.out; have := hT.out; omega
        obtain ⟨oa, cp, hv8⟩ := own_form HP.out.2.1
        subst hv8
        obtain ⟨R, hRR⟩ : ∃ R, R = shaF (M ls bs (i + 1)) L := ⟨_, rfl⟩
        have hs3 : ∀ X, Ext w8 X → Calls Tryd.prog 19 #[.pointer (some ⟨c', 0, none⟩)] X fun e w' => e = .returned (.agg (row 32 (yv R)).toArray) ∧ Below X.heap.size X w' := fun X hX => by
          rw [hRR]; exact sum_any c' L _ X (RowAt.carry HP.out.1 hX) (hC.out.ext (Ext.trans HP.out.2.2.2.1 hX)) (by omega)
        have hs2 : ∀ X, Ext w8 X → Calls Tryd.prog 11 #[.slice oa L cp] X fun e w' => e = .returned (.agg (row 32 (yv R)).toArray) ∧ Below X.heap.size X w' := fun X hX => by
          rw [hRR]; exact rsumV _ L _ X ((OwnB.bv HP.out.2.1).ext hX) (by omega)
        have hs4 : ∀ X, Ext w8 X → Calls Tryd.prog 20 #[.pointer (some ⟨c', 0, none⟩)] X fun e w' => e = .returned (.int .i64 (L : Int)) ∧ w' = X := fun X hX => len_any c' L _ _ X (RowAt.carry HP.out.1 hX)
        replace hs2 := hideit hs2
        replace hs3 := hideit hs3
        replace hs4 := hideit hs4
        replace hL := hideit hL
        have hq := neq24 R
        clear hRR
        have HX := hideit (Ext.refl w8)
        go_wp2_with (first | (go_at_call 19; refine (hs3.out _ HX.out).mono ?_; rintro e w9 ⟨rfl, hw9⟩; have HX9 := hideit (Ext.trans HX.out hw9); clear hw9) | (go_at_call 11; refine (hs2.out _ HX9.out).mono ?_; rintro e w10 ⟨rfl, hw10⟩; have HX10 := hideit (Ext.trans HX9.out hw10); clear hw10) | (go_at_call 20; refine (hs4.out _ HX10.out).mono ?_; rintro e w11 ⟨rfl, rfl⟩))
        refine ⟨⟨i + 1, by omega, by go_num, c', rfl, hL.out ▸ HP.out.ext HX10.out⟩, by simp [intOf]; omega⟩
    · obtain rfl : i = n := by omega
      have hLT : sumL ls i ≤ 1048576 := by have := sumL_mono ls i i (Nat.le_refl _); have := hT.out; omega
      obtain ⟨oa, cp, hv8⟩ := own_form HS.out.2.1
      subst hv8
      obtain ⟨R, hRR⟩ : ∃ R, R = shaF (M ls bs i) (sumL ls i) := ⟨_, rfl⟩
      have hs3 : ∀ X, Ext wr X → Calls Tryd.prog 19 #[.pointer (some ⟨c', 0, none⟩)] X fun e w' => e = .returned (.agg (row 32 (yv R)).toArray) ∧ Below X.heap.size X w' := fun X hX => by
        rw [hRR]; exact sum_any c' (sumL ls i) _ X (RowAt.carry HS.out.1 hX) (hC.out.ext (Ext.trans HS.out.2.2.2.1 hX)) (by omega)
      have hs2 : ∀ X, Ext wr X → Calls Tryd.prog 11 #[.slice oa (sumL ls i) cp] X fun e w' => e = .returned (.agg (row 32 (yv R)).toArray) ∧ Below X.heap.size X w' := fun X hX => by
        rw [hRR]; exact rsumV _ (sumL ls i) _ X ((OwnB.bv HS.out.2.1).ext hX) (by omega)
      replace hs2 := hideit hs2
      replace hs3 := hideit hs3
      have hq := eq24 R
      clear hRR
      have HX := hideit (Ext.refl wr)
      have hq1 : ¬ ((i : Int) < (i : Int)) := by omega
      go_wp2_with (first | (go_at_call 19; refine (hs3.out _ HX.out).mono ?_; rintro e w9 ⟨rfl, hw9⟩; have HX9 := hideit (Ext.trans HX.out hw9); clear hw9) | (go_at_call 11; refine (hs2.out _ HX9.out).mono ?_; rintro e w10 ⟨rfl, hw10⟩; have HX10 := hideit (Ext.trans HX9.out hw10); clear hw10))
      go_ret
      exact ⟨rfl, Ext.trans HS.out.2.2.2.1 HX10.out⟩
set_option maxRecDepth 20000 in
set_option maxHeartbeats 4000000 in
theorem walk_none (ls : Nat → Nat) (bs : Nat → Nat → BitVec 8) (w : World) (hC : TabC w) :
    Calls Tryd.prog 5 #[.slice none 0 0] w fun e w' => e = .returned (.bool true) ∧ Below w.heap.size w w' := by
  replace hC := hideit hC
  go_enter Tryd.func5, Tryd.ntmps5
  go_upto_region 2 with (go_at_call 16; refine (new_any _).mono ?_; rintro e w2 ⟨c, hc, rfl, hH, hE2⟩; have HH := hideit hH; have HE2 := hideit hE2; clear hH hE2)
  go_upto_region 4 with (go_at_call 9; refine (lives_any _ (hC.out.ext HE2.out)).mono ?_; rintro e w3 ⟨rfl, hw3⟩; have HE3 := hideit (Ext.trans HE2.out hw3); have HH3 := hideit (RowAt.carry HH.out hw3); clear hw3 HE2 HH)
  have HS0 : PS w (M ls bs 0) (sumL ls 0) c (.slice none 0 0) w3 := by
    refine ⟨?_, own_nil _ _ _ _, fun _ => rfl, HE3.out, hc⟩
    show HashAt c (chain _ (0 / 64)) (pend _ 0) 0 w3
    rw [pend_zero]
    exact HH3.out
  replace HS0 := hideit HS0
  clear HE3 HH3
  go_wp2
  go_loopw [3, 4, 5] (fun hp v iv wr => iv = .int .i64 0 ∧ ∃ c : Nat, hp = .pointer (some ⟨c, 0, none⟩) ∧ PS w (M ls bs 0) (sumL ls 0) c v wr) (fun _ _ iv _ => 0)
  case atStart => exact ⟨rfl, c, rfl, HS0.out⟩
  case round =>
    clear HS0
    obtain ⟨rfl, c', rfl, hS⟩ := hrel
    have HS := hideit hS
    clear hS
    have hLT : sumL ls 0 ≤ 1048576 := Nat.zero_le _
    obtain ⟨oa, cp, hv8⟩ := own_form HS.out.2.1
    subst hv8
    obtain ⟨R, hRR⟩ : ∃ R, R = shaF (M ls bs 0) (sumL ls 0) := ⟨_, rfl⟩
    have hs3 : ∀ X, Ext wr X → Calls Tryd.prog 19 #[.pointer (some ⟨c', 0, none⟩)] X fun e w' => e = .returned (.agg (row 32 (yv R)).toArray) ∧ Below X.heap.size X w' := fun X hX => by
      rw [hRR]; exact sum_any c' (sumL ls 0) _ X (RowAt.carry HS.out.1 hX) (hC.out.ext (Ext.trans HS.out.2.2.2.1 hX)) (by omega)
    have hs2 : ∀ X, Ext wr X → Calls Tryd.prog 11 #[.slice oa (sumL ls 0) cp] X fun e w' => e = .returned (.agg (row 32 (yv R)).toArray) ∧ Below X.heap.size X w' := fun X hX => by
      rw [hRR]; exact rsumV _ (sumL ls 0) _ X ((OwnB.bv HS.out.2.1).ext hX) (by omega)
    replace hs2 := hideit hs2
    replace hs3 := hideit hs3
    have hq := eq24 R
    clear hRR
    have HX := hideit (Ext.refl wr)
    have hq1 : ¬ ((0 : Int) < (0 : Int)) := by omega
    go_wp2_with (first | (go_at_call 19; refine (hs3.out _ HX.out).mono ?_; rintro e w9 ⟨rfl, hw9⟩; have HX9 := hideit (Ext.trans HX.out hw9); clear hw9) | (go_at_call 11; refine (hs2.out _ HX9.out).mono ?_; rintro e w10 ⟨rfl, hw10⟩; have HX10 := hideit (Ext.trans HX9.out hw10); clear hw10))
    go_ret
    exact ⟨rfl, Ext.trans HS.out.2.2.2.1 HX10.out⟩
theorem walk (v : Value) (w : World) (hA : PArg v w 1048576) (hC : TabC w) :
    Calls Tryd.prog 5 #[v] w fun e w' => e = .returned (.bool true) ∧ Below w.heap.size w w' := by
  rcases hA with rfl | ⟨ab, ao, n, cap, us, ls, bs, rfl, _, hU, hT, hn⟩
  · exact walk_none (fun _ => 0) (fun _ _ => 0#8) w hC
  · exact walk_some ab ao n cap us ls bs w hU hT hn hC

theorem contract (H : Type) (enc : TypeId × Value → H) (W : World) (base : Nat) (args : Array Value) (ds gs : List (DataW H)) (before : List MemPlace)
    (hval0 : ∀ (j : Nat) t v, Tryd.f5.params[j]? = some t → args[j]? = some v → Value.okWide Tryd.prog W .any base t v)
    (hW : DataW.Whole enc Tryd.prog Tryd.f5.params.toList Rows.shaPiecesSpec.vars false W args.toList ds gs before) (hL : laidMetH Tryd.prog Rows.shaPiecesUptoRow.laid W) (hB : Rows.uptoSmall H (ds ++ gs) = true) :
    Calls Tryd.prog 5 args W fun e W' => ∃ v, e = .returned v ∧ Rows.shaPiecesSpec.post enc Tryd.prog Tryd.f5 false true false false W args v W' := by
  have hval := hval0
  have hW' := hW
  obtain ⟨p, q, hA0, hV, rfl, hfz, hnd⟩ := hW
  have hA : DataW.TrodAll enc Tryd.prog W 0 (fun _ => true) true Tryd.f5.params.toList args.toList ds p := hA0
  rw [Tryd.params5] at hA hval
  obtain ⟨v0, vs0, d0, ds0, p0, q0, hargs, rfl, rfl, h0, r0⟩ := trodAll_cons hA
  obtain ⟨rfl, rfl, rfl⟩ := trodAll_nil r0
  obtain rfl : args = #[v0] := by cases args; simp_all
  obtain ⟨rfl, rfl⟩ := trodVars_none hV
  have h0s : 0 < W.heap.size := by
    have hc := (table hL).cell gTab 0 (by decide)
    rcases Nat.lt_or_ge 0 W.heap.size with h | h
    · exact h
    · exfalso
      have : W.heap[0]? = none := Array.getElem?_eq_none h
      simp [World.cell?, this] at hc
  have hC : TabC W := tabC hL h0s
  have k0 := h0
  have lt0 : ∀ x ∈ p0, x.block < W.heap.size := by obtain ⟨m, hm⟩ := k0; exact DataW.trod_lt m _ _ _ hm
  have B0 := parg (hval 0 33 v0 rfl rfl) h0 (of_decide_eq_true hB)
  clear hA0 hval0
  refine (walk v0 W B0 hC).mono fun e W' ⟨he, bel⟩ => ?_
  subst he
  exact ⟨_, rfl, _, _, _, [], _, [], hW', trodAll_mk1 (shut_bool Tryd.underlying4 _), (trodAll_cons_mk (Below.trod laidOut (by kernel_rfl) (of_decide_eq_true (by kernel_rfl)) k0 bel lt0) trodAll_mk0), rfl, bel.frame _, fun h => by cases h⟩

def wit : Array Value := #[.slice none 0 0]
def dat {H : Type} : List (DataW H) := [.nil]
def setTab : Obj → Obj
  | .cells _ t frozen => .cells (tabL.map fun z => Value.int .u32 z).toArray t frozen
  | o => o
theorem laid_met (os : Os) : laidMet Tryd.prog Rows.shaPiecesUptoRow.laid (({ World.holding Tryd.prog os ⟨#[], #[], []⟩ with heap := (World.holding Tryd.prog os ⟨#[], #[], []⟩).heap.modify 0 setTab } : World).forCall (fun _ _ => 0) ⟨#[], wit, []⟩).memory :=
  laidMet_of_run' 8 (by kernel_rfl) (by kernel_rfl)
theorem reads (os : Os) {H : Type} (enc : TypeId × Value → H) : ∃ places, DataW.whole enc Tryd.prog (({ World.holding Tryd.prog os ⟨#[], #[], []⟩ with heap := (World.holding Tryd.prog os ⟨#[], #[], []⟩).heap.modify 0 setTab } : World).forCall (fun _ _ => 0) ⟨#[], wit, []⟩).memory Tryd.f5.params.toList Rows.shaPiecesSpec.vars false wit.toList 8 = some (dat, [], places) :=
  ⟨[], by kernel_rfl⟩

set_option maxRecDepth 100000 in
theorem lifted (os : Os) (started : os.Started) (H : Type) (enc : TypeId × Value → H) (F : Stop.Interp) :
    ReturnsInHanded {} Tryd.checked os 5 .any ((Rows.OpenSpec.upto Rows.shaPiecesSpec).preRow enc Tryd.prog Tryd.f5 Rows.shaPiecesUptoRow.domain false Rows.shaPiecesUptoRow.laid) (((Rows.OpenSpec.upto Rows.shaPiecesSpec).at F).post enc Tryd.prog Tryd.f5 false true false false) := by
  obtain ⟨places, hx⟩ := reads os enc
  refine returnsInHanded_of_row (C := Tryd.checked) (s := (Rows.OpenSpec.upto Rows.shaPiecesSpec)) own started (by kernel_rfl) Tryd.func5
    (witness_row_at (enc := enc) (C := Tryd.checked) false ({ World.holding Tryd.prog os ⟨#[], #[], []⟩ with heap := (World.holding Tryd.prog os ⟨#[], #[], []⟩).heap.modify 0 setTab } : World) wit rfl (by kernel_rfl) (by kernel_rfl) (by kernel_rfl)
      (OpenSpec.preRow_of_cond 8 hx (by kernel_rfl) (fun k hk => by cases hk; kernel_rfl) (by kernel_rfl) (laid_met os))) ?_
  intro W base args ds gs before hval hW _ hcond hsz hL _ _
  exact contract H enc W base args ds gs before hval hW hL (hcond _ rfl)

theorem said : Rows.ShaPiecesUptoSaid :=
  OpenClaim.holds_of_cond 5 Tryd.f5 rfl rfl rfl rfl rfl rfl rfl ⟨rfl, rfl, rfl, rfl, rfl⟩ rfl rfl rfl rfl rfl (by kernel_rfl) Tryd.func5 (by kernel_rfl)
    (of_decide_eq_true (by kernel_rfl)) (by unfold Func.isWrapper; first | (rw [if_pos (by decide +kernel)]; kernel_rfl) | (rw [if_neg (by decide +kernel)]; exact ⟨rfl, rfl⟩))
    (fun os started H enc _ F => by rw [OpenClaim.pre_eq_preRow]; exact lifted os started H enc F)

theorem plain (f : FuncId) (fn : Func) (hf : Tryd.pinned.checked.prog.funcNamed "casket/casketlaw04.ShaPieces" = some f) (hfn : Tryd.pinned.checked.prog.funcs[f]? = some fn) :
    false = Tryd.pinned.checked.prog.looks [] ∧ ∀ (j : Nat) t, fn.params[j]? = some t → Tryd.pinned.checked.prog.wantsStandIn t = false := by
  obtain rfl : f = 5 := Option.some.inj ((show Tryd.prog.funcNamed "casket/casketlaw04.ShaPieces" = some 5 by kernel_rfl).symm.trans hf) |>.symm
  obtain rfl : fn = Tryd.f5 := (Option.some.inj (Tryd.func5.symm.trans hfn)).symm
  refine ⟨by kernel_rfl, fun j t ht => ?_⟩
  rw [Tryd.params5] at ht
  have hm : t ∈ [33] := by simpa using Array.mem_of_getElem? ht
  have hall : ([33].all fun u => !Tryd.prog.wantsStandIn u) = true := by kernel_rfl
  exact (show Tryd.prog.wantsStandIn t = false by simpa using List.all_eq_true.1 hall t hm)

theorem card : Rows.ShaPiecesUptoCardSaid :=
  Claim7.holds_tied_plain_at .later [] _ _ _ _ said (fun _ h => by cases h) (by kernel_rfl) (fun _ h => by cases h) shaPiecesUpto_row_tie rfl ⟨rfl, rfl⟩ (by kernel_rfl) rfl plain (by kernel_rfl)
end Go.Proofs.YtbejodcgigdjaaaDoor.shaPieces
namespace Go.Proofs.YtbejodcgigdjaaaDoor
theorem shaPieces_holds : Rows.ShaPiecesUptoCardSaid := shaPieces.card
end Go.Proofs.YtbejodcgigdjaaaDoor
