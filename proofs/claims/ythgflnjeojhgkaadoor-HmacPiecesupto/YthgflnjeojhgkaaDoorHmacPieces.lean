/-
  For every key and every list of slices of bytes of at most 1048576 values in all (the second form) the law HmacPieces returns true, and its arguments read behind the call as they read before; the package-level table of constants is as the program lays it.
-/
import Derived.Test.YthgflnjeojhgkaaDoorCards
import Derived.Test.YthgflnjeojhgkaaDoorTie
import Derived.WalkKit
import Derived.ProofKit
import Derived.OpenShut
import Derived.ShutString
import Derived.ChangeOld
import Derived.Below
import Derived.Deep.DeepHandedRow
import Derived.Lib.LaidTab
import Derived.Test.YthgflnjeojhgkaaDoorHLives
import Derived.Test.YthgflnjeojhgkaaDoorHRTag
import Derived.Test.YthgflnjeojhgkaaDoorHPcs
namespace Go.Proofs.YthgflnjeojhgkaaDoor.hmacPieces
open Go.ChangeShapes Go.WideShapes Go.ChangeAt Go.RowKit
set_option linter.unusedVariables false

theorem own : ownKnob Tryd.prog.godebug = none := by kernel_rfl
theorem laidOut : laidOutB Tryd.prog = true := by kernel_rfl
theorem gTab : Tryd.prog.globalNamed "casket/sha.constants" = some 0 := by kernel_rfl
theorem gTabType : (Tryd.prog.globals[0]?).map (·.type) = some 62 := by kernel_rfl
theorem cellsG : Tryd.prog.cellsOf 62 = 64 := by kernel_rfl
theorem cellsE : Tryd.prog.cellsOf 51 = 1 := by kernel_rfl
def tabL : List Int := [1116352408, 1899447441, 3049323471, 3921009573, 961987163, 1508970993, 2453635748, 2870763221, 3624381080, 310598401, 607225278, 1426881987, 1925078388, 2162078206, 2614888103, 3248222580, 3835390401, 4022224774, 264347078, 604807628, 770255983, 1249150122, 1555081692, 1996064986, 2554220882, 2821834349, 2952996808, 3210313671, 3336571891, 3584528711, 113926993, 338241895, 666307205, 773529912, 1294757372, 1396182291, 1695183700, 1986661051, 2177026350, 2456956037, 2730485921, 2820302411, 3259730800, 3345764771, 3516065817, 3600352804, 4094571909, 275423344, 430227734, 506948616, 659060556, 883997877, 958139571, 1322822218, 1537002063, 1747873779, 1955562222, 2024104815, 2227730452, 2361852424, 2428436474, 2756734187, 3204031479, 3329325298]
theorem table {W : World} (h : laidMetH Tryd.prog Rows.hmacPiecesUptoRow.laid W) : Lib.TabIs Tryd.prog W "casket/sha.constants" .u32 tabL :=
  Lib.tabIs_of_head (rest := []) gTab gTabType Tryd.underlying62 Tryd.underlying51 cellsE cellsG h
theorem tab_kT : ∀ j, j < 64 → tabL.getD j 0 = ((kT j).toNat : Int) := by decide +kernel
theorem tabC {W : World} (h : laidMetH Tryd.prog Rows.hmacPiecesUptoRow.laid W) (h0 : 0 < W.heap.size) : TabC W :=
  ⟨fun j hj => by
    rw [← tab_kT j hj]
    exact (table h).cell gTab j hj, h0⟩

open Go.BigFrame
def M (ls : Nat → Nat) (bs : Nat → Nat → BitVec 8) : Nat → Nat → BitVec 8
  | 0 => fun _ => 0#8
  | i + 1 => catF (M ls bs i) (sumL ls i) (bs i)
theorem growP {ops : Array Oper} {rest : List Oper} {o : Oper} {a : Act} {Q : Exit → Act → World → Prop} {base n m : Nat} {v u : Value} {f b : Nat → BitVec 8} {w : World} (hgd : o.guard = none) (s x : Operand)
    (ho : o.op = .call { callee := .builtin .append, args := #[s, x], argTypes := #[22, 22] }) (hs : a.eval s = v) (hown : OwnB base 5 v n (yv f) w) (hx : a.eval x = u) (hP : PV u m b w) (hb : n + m ≤ 140737488355328) (hbase : base ≤ w.heap.size)
    (h : ∀ v' w', OwnB base 5 v' (n + m) (yv (catF f n b)) w' → w.grownBy w' v.ownBlock → (v' = .slice none 0 0 ↔ v = .slice none 0 0 ∧ m = 0) → wpList Tryd.prog ops Q rest (a.put o.dst v') w') : wpList Tryd.prog ops Q (o :: rest) a w := by
  obtain ⟨i, z, e1, e2, e3, e4, e5⟩ := elem22.info
  have h1 : ∀ j, j < n → yv f j = yv (catF f n b) j := fun j hj => by simp only [yv]; unfold catF; rw [if_pos hj]
  rcases hP with ⟨rfl, rfl⟩ | ⟨ad, cap, rfl, h2, h3⟩
  · refine wpList_grow_none (v := v) elem22 hgd s x ho hs hown hx (h v w (hown.congr h1) ⟨rfl, rfl, rfl, Nat.le_refl _, fun _ _ _ => rfl⟩ (by simp))
  · refine wpList_append_own w hgd s x 22 ho base 5 i z 1 1 elem22.slice e1 e2 e3 e4 e5 (by decide) v n (row n (yv f)) hs hown ad m cap (row m (yv b)) hx (by rw [row_length]; omega) (fun j w0 hj => ?_) (fun w0 hw0 => ?_) (by unfold maxLen; omega) (by omega) hbase fun v' w' k2 k3 k4 => h v' w' ?_ k3 k4
    · obtain ⟨hj', rfl⟩ := row_some hj
      exact h3 j hj'
    · obtain ⟨j, hj, rfl⟩ := List.mem_map.1 hw0
      rfl
    · unfold OwnB
      rwa [row_append n m (yv f) (yv b) (yv (catF f n b)) h1 (fun j hj => by simp only [yv]; unfold catF; rw [if_neg (by omega), Nat.add_sub_cancel_left])] at k2
theorem own_ne {base n c k : Nat} {v : Value} {f : Nat → BitVec 8} {p : Nat → BitVec 8} {w : World} (h : OwnB base 5 v n (yv f) w) (h0 : n = 0 → v = .slice none 0 0) (hh : HashOf c p k w) : v.ownBlock ≠ some c := by
  rcases Nat.eq_zero_or_pos n with e | e
  · rw [h0 e]; simp [Value.ownBlock]
  · obtain ⟨g, cap, rfl, _, _, _, hR⟩ := h.lies e
    intro hg
    simp only [Value.ownBlock, Option.some.injEq] at hg
    have h1 := hR.1 0 e
    have h2 := hh.1 0 (by omega)
    rw [hg, h2] at h1
    simp only [hv, yv, wv] at h1
    cases h1
theorem own_neP {base n c d1 d2 : Nat} {v : Value} {f : Nat → BitVec 8} {w : World} (h : OwnB base 5 v n (yv f) w) (h0 : n = 0 → v = .slice none 0 0) (hh : RowAt c 2 (dv d1 d2) w) : v.ownBlock ≠ some c := by
  rcases Nat.eq_zero_or_pos n with e | e
  · rw [h0 e]; simp [Value.ownBlock]
  · obtain ⟨g, cap, rfl, _, _, _, hR⟩ := h.lies e
    intro hg
    simp only [Value.ownBlock, Option.some.injEq] at hg
    have h1 := hR.1 0 e
    have h2 := hh.1 0 (by omega)
    rw [hg, h2] at h1
    simp only [dv, yv] at h1
    cases h1
theorem neq24 (f : Nat → BitVec 8) (w : World) : (binOp .neq 23 (.agg (row 32 (yv f)).toArray) (.agg (row 32 (yv f)).toArray)).run Tryd.prog w = .ok (.bool false) w := by
  have h := eq24 f w
  rw [run_eql_struct] at h
  rw [run_neq_struct]
  cases hh : (Op.equalIn 10000 23 (.agg (row 32 (yv f)).toArray) (.agg (row 32 (yv f)).toArray)).run Tryd.prog w with
  | ok b w' =>
    rw [hh] at h
    simp only [Result.andThen_ok, Result.ok.injEq, Value.bool.injEq] at h ⊢
    exact ⟨by rw [h.1]; rfl, h.2⟩
  | halt x w' => rw [hh] at h; simp at h
structure PS (w : World) (rk m : Nat → BitVec 8) (k mb d1 d2 : Nat) (v : Value) (X : World) : Prop where
  mac : MacOf mb rk m k d1 d2 X
  own : OwnB w.heap.size 5 v k (yv m) X
  nil : k = 0 → v = .slice none 0 0
  ext : Ext w X
  new : w.heap.size ≤ mb ∧ w.heap.size ≤ d1 ∧ w.heap.size ≤ d2
theorem PS.carry {w X Y : World} {rk m : Nat → BitVec 8} {k mb d1 d2 : Nat} {v : Value} (h : PS w rk m k mb d1 d2 v X) (e : Ext X Y) : PS w rk m k mb d1 d2 v Y := ⟨h.mac.carry e, h.own.ext e, h.nil, Ext.trans h.ext e, h.new⟩
set_option maxRecDepth 20000 in
set_option maxHeartbeats 2000000 in
theorem walk (v0 v1 : Value) (w : World) (A0 : BArgU v0 w) (A1 : PArg v1 w 1048576) (hC : TabC w) : Calls Tryd.prog 4 #[v0, v1] w fun e w' => e = .returned (.bool true) ∧ Below w.heap.size w w' := by
  obtain ⟨l0, b0, hK, hl0⟩ := A0
  obtain ⟨o0, c0, rfl⟩ := hK.form
  replace hl0 : l0 ≤ 140737488351232 := by omega
  obtain ⟨ol, n, cap, us, ls, bs, hv1, hU, hT, hn⟩ : ∃ (ol : Option Addr) (n cap : Nat) (us : Nat → Value) (ls : Nat → Nat) (bs : Nat → Nat → BitVec 8), v1 = .slice ol n cap ∧ (∀ i, i < n → (∃ ab ao, ol = some ⟨ab, ao, none⟩ ∧ w.cell? ⟨ab, ao + i, none⟩ = some (us i)) ∧ PV (us i) (ls i) (bs i) w) ∧ sumL ls n ≤ 1048576 ∧ n ≤ 1048576 := by
    rcases A1 with h | ⟨ab, ao, n, cap, us, ls, bs, h1, _, h3, h4, h5⟩
    · exact ⟨none, 0, 0, fun _ => undef, fun _ => 0, fun _ _ => 0#8, h, fun i hi => absurd hi (by omega), by simp [sumL], by omega⟩
    · exact ⟨_, n, cap, us, ls, bs, h1, fun i hi => ⟨⟨ab, ao, rfl, (h3 i hi).1⟩, (h3 i hi).2⟩, h4, h5⟩
  subst hv1
  replace hC := hideit hC
  replace hU := hideit hU
  replace hT := hideit hT
  replace hK := hideit hK
  have hn2 : (n : Int) ≤ 1048576 := by omega
  obtain ⟨rk, hrk⟩ : ∃ rk, rk = readyF l0 b0 := ⟨_, rfl⟩
  replace hrk := hideit hrk
  go_enter Tryd.func4, Tryd.ntmps4
  go_upto_region 1 with (fail)
  refine wp_region_lit ?_
  refine wpList_to rfl (.slice (some ⟨w.heap.size, 0, none⟩) 0 0) (w.alloc (.cells #[] 5)) (by simp [go_sem]) ?_
  simp only [Act.put, List.setIfInBounds_toArray, List.set_cons_zero, List.set_cons_succ]
  refine wpList_run rfl (.slice o0 l0 c0) (by simp [go_sem]) ?_
  simp only [Act.put, List.setIfInBounds_toArray, List.set_cons_zero, List.set_cons_succ]
  have hE1 : Ext w (w.alloc (.cells #[] 5)) := (Below.refl _ _).alloc (Nat.le_refl _) _
  have HO1 := own_empty w w.heap.size 5 (yv b0) (Nat.le_refl _)
  refine wpList_growV (n := 0) (base := w.heap.size) (g := yv b0) elem22 rfl (.tmp 12) (.tmp 13) rfl rfl HO1 _ l0 b0 (yv b0) rfl (hK.out.ext hE1) (fun j hj => rfl) (fun j hj => by rw [Nat.zero_add]) (by omega) (by simp) ?_
  intro vo w1 hO2 hg2
  rw [Nat.zero_add] at hO2
  have HE2 := hideit (grown_ext hE1 hg2 (fun k hk => (HO1.lt k hk).1))
  obtain ⟨oo, co, rfl⟩ := own_form hO2
  have HO2 := hideit hO2
  clear hO2 hg2 HO1 hE1
  simp only [Act.put, List.setIfInBounds_toArray, List.set_cons_zero, List.set_cons_succ]
  refine wpList_run rfl (.slice oo l0 co) (by simp [go_sem]) ?_
  simp only [Act.put, List.setIfInBounds_toArray, List.set_cons_zero, List.set_cons_succ]
  have hnew := hideit (macNew _ l0 b0 w1 (OwnB.bv HO2.out) (hC.out.ext HE2.out) hl0)
  go_upto_region 3 with (go_at_call 11; refine hnew.out.mono ?_; rintro e w2 ⟨mb, d1, d2, hm0, hm1, hm2, rfl, hM, hE3⟩; rw [← hrk.out] at hM; have HM := hideit hM; have HE3 := hideit (Ext.trans HE2.out hE3); have HO3 := hideit (HO2.out.ext hE3); have hlt3 := HO2.out.lt; clear hM hE3 hnew HO2)
  go_upto_region 5 with (go_at_call 9; refine (lives_any _ (hC.out.ext HE3.out)).mono ?_; rintro e w3 ⟨rfl, hw3⟩; have HE4 := hideit (Ext.trans HE3.out hw3); have HM4 := hideit (HM.out.carry hw3); have HO4 := hideit (HO3.out.ext hw3); clear hw3 HE3 HM HO3)
  have hws : w.heap.size ≤ w1.heap.size := Below.size HE2.out
  have hob : Hid (∀ k, (Value.slice oo l0 co).ownBlock = some k → w.heap.size ≤ k ∧ k ≠ mb ∧ k ≠ d1 ∧ k ≠ d2) := fun k hk => by have := hlt3 k hk; omega
  clear hlt3
  go_wp2
  go_loopw [7] (fun iv wr => ∃ i : Nat, i ≤ l0 ∧ iv = .int .i64 (i : Int) ∧ (∃ gg : Nat → BitVec 8, OwnB w.heap.size 5 (.slice oo l0 co) l0 (yv gg) wr) ∧ MacOf mb rk (fun _ => 0#8) 0 d1 d2 wr ∧ Ext w wr) (fun iv _ => l0 - (intOf iv).toNat)
  case atStart => exact ⟨0, by omega, rfl, ⟨_, HO4.out⟩, HM4.out, HE4.out⟩
  case round =>
    clear HO4 HM4 HE4
    obtain ⟨i, hi, rfl, ⟨gg, hO⟩, hM, hE⟩ := hrel
    have HO := hideit hO
    have HM := hideit hM
    have HE := hideit hE
    clear hO hM hE
    by_cases hlt : i < l0
    · have i0 : (0 : Int) ≤ (i : Int) := by omega
      have i1 : (i : Int) < (l0 : Int) := by omega
      obtain ⟨g, cp9, hv, hg1, hg2, hg3, hRow⟩ := HO.out.lies (by omega)
      injection hv with e1 e2 e3
      subst e1
      have hgb := hob.out g rfl
      have ec := hRow.1 i hlt
      have gc := hRow.2.1 i hlt
      simp only [yv] at ec
      clear hRow hg1 hg2 hg3 e2 e3
      obtain ⟨x, hx⟩ : ∃ x : BitVec 8, (((gg i).toNat : Int) + 1) % 256 = (x.toNat : Int) := ⟨BitVec.ofNat 8 ((gg i).toNat + 1), by rw [BitVec.toNat_ofNat]; omega⟩
      go_wp2
      refine ⟨⟨i + 1, by omega, by go_num, ⟨fun j => if j = i then x else gg j, (HO.out.set (b := g) rfl i hlt (.int .u8 (x.toNat : Int))).congr fun j _ => ?_⟩, ?_, HE.out.setCell hgb.1 _⟩, by simp [intOf]; omega⟩
      · simp only [yv]
        split <;> rfl
      · exact ⟨HM.out.pair.other _ _ (by show g ≠ mb; omega), RowAt.other HM.out.inner _ _ (by show g ≠ d1; omega), RowAt.other HM.out.outer _ _ (by show g ≠ d2; omega), HM.out.n1, HM.out.n2, HM.out.n3⟩
    · obtain rfl : i = l0 := by omega
      have i1 : ¬ (i : Int) < (i : Int) := by omega
      have HS0 : PS w rk (M ls bs 0) (sumL ls 0) mb d1 d2 (.slice none 0 0) wr := ⟨HM.out, own_nil _ _ _ _, fun _ => rfl, HE.out, by omega⟩
      replace HS0 := hideit HS0
      clear HM HE HO hob hm0 hm1 hm2
      generalize hl00 : i = l0 at *
      go_wp2
      go_loopw [6, 8, 9] (fun mp v iv wr => ∃ i : Nat, i ≤ n ∧ iv = .int .i64 (i : Int) ∧ ∃ mb d1 d2 : Nat, mp = .pointer (some ⟨mb, 0, none⟩) ∧ PS w rk (M ls bs i) (sumL ls i) mb d1 d2 v wr) (fun _ _ iv _ => n - (intOf iv).toNat)
      case atStart => exact ⟨0, by omega, rfl, mb, d1, d2, rfl, HS0.out⟩
      case round =>
        clear HS0
        obtain ⟨i, hi, rfl, mb, d1, d2, rfl, hS⟩ := hrel
        have HS := hideit hS
        clear hS
        by_cases hlt : i < n
        · have i0 : (0 : Int) ≤ (i : Int) := by omega
          have i1 : (i : Int) < (n : Int) := by omega
          obtain ⟨ab, ao, rfl, hcell⟩ := (hU.out i hlt).1
          have hcl := hideit (fun (X : World) (hX : Ext w X) => cell_ext hX hcell)
          clear hcell
          by_cases hf : i % 3 = 1
          · have hf1 : (((i : Int) % 3) == 1) = true := by rw [beq_iff_eq]; omega
            have hfk := hideit (macFork mb _ d1 d2 rk _ wr HS.out.mac)
            go_upto_region 17 with (go_at_call 12; refine hfk.out.mono ?_; rintro e w4 ⟨mf, f1, f2, hq0, hq1, hq2, rfl, hMf, hE4⟩; have HD := hideit hMf; have HS4 := hideit (HS.out.carry hE4); have hcd1 : mb < wr.heap.size := HS.out.mac.pair.2.2; have hcd2 : d1 < wr.heap.size := HS.out.mac.inner.2.2; clear hMf hE4 HS hfk)
            obtain ⟨w5, hrun5, hB5, hE5⟩ := constB w4 #[.int .u8 111, .int .u8 116, .int .u8 104, .int .u8 101, .int .u8 114] 5 (bT [111, 116, 104, 101, 114]) (fun j hj => by rcases (by omega : j = 0 ∨ j = 1 ∨ j = 2 ∨ j = 3 ∨ j = 4) with rfl | rfl | rfl | rfl | rfl <;> rfl)
            have HS5 := hideit (HS4.out.carry hE5)
            have HD5 := hideit (HD.out.carry hE5)
            have hd1w : d1 < w4.heap.size := HS4.out.mac.inner.2.2
            have hL5 : LieAt ⟨w4.heap.size, 0, none⟩ 5 (yv (bT [111, 116, 104, 101, 114])) w5 := by
              rcases hB5 with ⟨h, _⟩ | ⟨a5, cap5, h5, hc5, hl5⟩
              · cases h
              · injection h5 with e1 e2 e3
                injection e1 with e1
                rw [e1]
                exact hl5
            have hwo := hideit (macWrite mb _ d1 d2 5 rk _ (bT [111, 116, 104, 101, 114]) (.slice (some ⟨w4.heap.size, 0, none⟩) 5 5) w5 HS5.out.mac (write_any d1 _ 5 5 _ _ ⟨w4.heap.size, 0, none⟩ w5 HS5.out.mac.inner (hC.out.ext HS5.out.ext) hL5 (Nat.le_refl _) (by show w4.heap.size ≠ d1; omega) (by have := hC.out.2; have := HS5.out.new; omega) (by have := hT.out; have := sumL_mono ls i n (by omega); omega)))
            clear hL5
            go_upto_region 17 with (fail)
            refine wp_region_lit ?_
            refine wpList_run rfl (.pointer (some ⟨mb, 0, none⟩)) (by simp [go_sem]) ?_
            simp only [Act.put, List.setIfInBounds_toArray, List.set_cons_zero, List.set_cons_succ]
            refine wpList_to rfl (.slice (some ⟨w4.heap.size, 0, none⟩) 5 5) (w4.alloc (.cells #[.int .u8 111, .int .u8 116, .int .u8 104, .int .u8 101, .int .u8 114] 5)) (by simp [go_sem]) ?_
            simp only [Act.put, List.setIfInBounds_toArray, List.set_cons_zero, List.set_cons_succ]
            refine wpList_to rfl (.slice (some ⟨w4.heap.size, 0, none⟩) 5 5) w5 (by simp [go_sem, hrun5]) ?_
            simp only [Act.put, List.setIfInBounds_toArray, List.set_cons_zero, List.set_cons_succ]
            refine wpList_call rfl (by simp [go_sem]) (hwo.out.mono ?_)
            rintro e w6 ⟨rfl, hx6, hB6⟩
            refine ⟨_, rfl, ?_⟩
            simp only [Act.put, List.setIfInBounds_toArray, List.set_cons_zero, List.set_cons_succ]
            have HS6 : PS w rk (M ls bs i) (sumL ls i) mf f1 f2 _ w6 := ⟨HD5.out.but hB6 (by omega) (by omega) (by omega), HS5.out.own.but hB6 (own_ne HS5.out.own HS5.out.nil HS5.out.mac.inner), HS5.out.nil, Ext.but HS5.out.ext hB6 HS5.out.new.2.1, by have := Below.size HS5.out.ext; have := HS5.out.new; omega⟩
            replace HS6 := hideit HS6
            clear hx6 hB6 HS5 HD5 hwo hrun5 hB5 hE5 HS4 HD
            have hT1 := hideit (sumL_mono ls (i + 1) n (by omega))
            have hwp := hideit (macWrite mf _ f1 f2 (ls i) rk _ (bs i) (us i) w6 HS6.out.mac (writeP f1 _ (ls i) _ (bs i) (us i) w w6 (hU.out i hlt).2 HS6.out.ext HS6.out.mac.inner (hC.out.ext HS6.out.ext) HS6.out.new.2.1 (by have := hC.out.2; have := HS6.out.new; omega) (by have := hT1.out; have := hT.out; simp only [sumL] at *; omega)))
            have eu := hcl.out w6 HS6.out.ext
            go_upto_region 20 with (go_at_call 13; refine hwp.out.mono ?_; rintro e w7 ⟨rfl, hM7, hB7⟩; have HO7 := hideit (HS6.out.own.but hB7 (own_ne HS6.out.own HS6.out.nil HS6.out.mac.inner)); have HE7 := hideit (Ext.but HS6.out.ext hB7 HS6.out.new.2.1); have hz7 := hideit HS6.out.nil; have hc7 := hideit HS6.out.new; have HM7 := hideit hM7; clear hM7 hB7 hwp HS6 eu)
            have eu7 := hcl.out w7 HE7.out
            have hP7 := hideit ((hU.out i hlt).2.ext HE7.out)
            have hn1 := hideit (own_ne HO7.out hz7.out HM7.out.inner)
            have hn2 := hideit (own_ne HO7.out hz7.out HM7.out.outer)
            have hn3 := hideit (own_neP HO7.out hz7.out HM7.out.pair)
            go_upto_region 21 with (at_builtin; refine growP (n := sumL ls i) (m := ls i) (base := w.heap.size) rfl (.tmp 59) (.tmp 63) rfl rfl HO7.out rfl hP7.out (by have := hT1.out; have := hT.out; simp only [sumL] at *; omega) (Below.size HE7.out) ?_; intro v8 w8 ho hg hz; have HP : PS w rk (M ls bs (i + 1)) (sumL ls (i + 1)) mf f1 f2 v8 w8 := ⟨⟨HM7.out.pair.grown hg (fun h => hn3.out h.symm), RowAt.grown HM7.out.inner hg (fun h => hn1.out h.symm), RowAt.grown HM7.out.outer hg (fun h => hn2.out h.symm), HM7.out.n1, HM7.out.n2, HM7.out.n3⟩, ho, fun h => hz.2 ⟨hz7.out (by simp only [sumL] at h; omega), by simp only [sumL] at h; omega⟩, grown_ext HE7.out hg (fun k hk => (HO7.out.lt k hk).1), hc7.out⟩; replace HP := hideit HP; clear ho hg hz HO7 HE7 HM7 hP7 hn1 hn2 hn3 hz7 eu7)
            obtain ⟨L, hL⟩ : ∃ L, L = sumL ls (i + 1) := ⟨_, rfl⟩
            rw [← hL] at HP
            have hLT : L ≤ 1048576 := by have := hT1.out; have := hT.out; omega
            obtain ⟨oa, cp, hv8⟩ := own_form HP.out.own
            subst hv8
            obtain ⟨R, hRR⟩ : ∃ R, R = tagF l0 b0 (M ls bs (i + 1)) L := ⟨_, rfl⟩
            have hs3 : ∀ X, Ext w8 X → Calls Tryd.prog 14 #[.pointer (some ⟨mf, 0, none⟩)] X fun e w' => e = .returned (.agg (row 32 (yv R)).toArray) ∧ Below X.heap.size X w' := fun X hX => by
              rw [hRR]
              have hm := HP.out.mac.carry hX
              rw [hrk.out] at hm
              exact macSum mf L f1 f2 l0 b0 _ X hm (hC.out.ext (Ext.trans HP.out.ext hX)) (by omega)
            have hs2 : ∀ X, Ext w8 X → Calls Tryd.prog 8 #[.slice o0 l0 c0, .slice oa L cp] X fun e w' => e = .returned (.agg (row 32 (yv R)).toArray) ∧ Below X.heap.size X w' := fun X hX => by
              rw [hRR]; exact rTag_any _ _ l0 L b0 _ X (hK.out.ext (Ext.trans HP.out.ext hX)) ((OwnB.bv HP.out.own).ext hX) hl0 (by omega)
            replace hs2 := hideit hs2
            replace hs3 := hideit hs3
            replace hL := hideit hL
            have hq := neq24 R
            clear hRR
            have HX := hideit (Ext.refl w8)
            go_wp2_with (first | (go_at_call 14; refine (hs3.out _ HX.out).mono ?_; rintro e w9 ⟨rfl, hw9⟩; have HX9 := hideit (Ext.trans HX.out hw9); clear hw9) | (go_at_call 8; refine (hs2.out _ HX9.out).mono ?_; rintro e w10 ⟨rfl, hw10⟩; have HX10 := hideit (Ext.trans HX9.out hw10); clear hw10))
            refine ⟨⟨i + 1, by omega, by go_num, mf, f1, f2, rfl, hL.out ▸ HP.out.carry HX10.out⟩, by simp [intOf]; omega⟩
          · have hf1 : (((i : Int) % 3) == 1) = false := by rw [beq_eq_false_iff_ne]; omega
            go_upto_region 19 with (fail)
            have hT1 := hideit (sumL_mono ls (i + 1) n (by omega))
            have hwp := hideit (macWrite mb _ d1 d2 (ls i) rk _ (bs i) (us i) wr HS.out.mac (writeP d1 _ (ls i) _ (bs i) (us i) w wr (hU.out i hlt).2 HS.out.ext HS.out.mac.inner (hC.out.ext HS.out.ext) HS.out.new.2.1 (by have := hC.out.2; have := HS.out.new; omega) (by have := hT1.out; have := hT.out; simp only [sumL] at *; omega)))
            have eu := hcl.out wr HS.out.ext
            go_upto_region 20 with (go_at_call 13; refine hwp.out.mono ?_; rintro e w7 ⟨rfl, hM7, hB7⟩; have HO7 := hideit (HS.out.own.but hB7 (own_ne HS.out.own HS.out.nil HS.out.mac.inner)); have HE7 := hideit (Ext.but HS.out.ext hB7 HS.out.new.2.1); have hz7 := hideit HS.out.nil; have hc7 := hideit HS.out.new; have HM7 := hideit hM7; clear hM7 hB7 hwp HS eu)
            have eu7 := hcl.out w7 HE7.out
            have hP7 := hideit ((hU.out i hlt).2.ext HE7.out)
            have hn1 := hideit (own_ne HO7.out hz7.out HM7.out.inner)
            have hn2 := hideit (own_ne HO7.out hz7.out HM7.out.outer)
            have hn3 := hideit (own_neP HO7.out hz7.out HM7.out.pair)
            go_upto_region 21 with (at_builtin; refine growP (n := sumL ls i) (m := ls i) (base := w.heap.size) rfl (.tmp 59) (.tmp 63) rfl rfl HO7.out rfl hP7.out (by have := hT1.out; have := hT.out; simp only [sumL] at *; omega) (Below.size HE7.out) ?_; intro v8 w8 ho hg hz; have HP : PS w rk (M ls bs (i + 1)) (sumL ls (i + 1)) mb d1 d2 v8 w8 := ⟨⟨HM7.out.pair.grown hg (fun h => hn3.out h.symm), RowAt.grown HM7.out.inner hg (fun h => hn1.out h.symm), RowAt.grown HM7.out.outer hg (fun h => hn2.out h.symm), HM7.out.n1, HM7.out.n2, HM7.out.n3⟩, ho, fun h => hz.2 ⟨hz7.out (by simp only [sumL] at h; omega), by simp only [sumL] at h; omega⟩, grown_ext HE7.out hg (fun k hk => (HO7.out.lt k hk).1), hc7.out⟩; replace HP := hideit HP; clear ho hg hz HO7 HE7 HM7 hP7 hn1 hn2 hn3 hz7 eu7)
            obtain ⟨L, hL⟩ : ∃ L, L = sumL ls (i + 1) := ⟨_, rfl⟩
            rw [← hL] at HP
            have hLT : L ≤ 1048576 := by have := hT1.out; have := hT.out; omega
            obtain ⟨oa, cp, hv8⟩ := own_form HP.out.own
            subst hv8
            obtain ⟨R, hRR⟩ : ∃ R, R = tagF l0 b0 (M ls bs (i + 1)) L := ⟨_, rfl⟩
            have hs3 : ∀ X, Ext w8 X → Calls Tryd.prog 14 #[.pointer (some ⟨mb, 0, none⟩)] X fun e w' => e = .returned (.agg (row 32 (yv R)).toArray) ∧ Below X.heap.size X w' := fun X hX => by
              rw [hRR]
              have hm := HP.out.mac.carry hX
              rw [hrk.out] at hm
              exact macSum mb L d1 d2 l0 b0 _ X hm (hC.out.ext (Ext.trans HP.out.ext hX)) (by omega)
            have hs2 : ∀ X, Ext w8 X → Calls Tryd.prog 8 #[.slice o0 l0 c0, .slice oa L cp] X fun e w' => e = .returned (.agg (row 32 (yv R)).toArray) ∧ Below X.heap.size X w' := fun X hX => by
              rw [hRR]; exact rTag_any _ _ l0 L b0 _ X (hK.out.ext (Ext.trans HP.out.ext hX)) ((OwnB.bv HP.out.own).ext hX) hl0 (by omega)
            replace hs2 := hideit hs2
            replace hs3 := hideit hs3
            replace hL := hideit hL
            have hq := neq24 R
            clear hRR
            have HX := hideit (Ext.refl w8)
            go_wp2_with (first | (go_at_call 14; refine (hs3.out _ HX.out).mono ?_; rintro e w9 ⟨rfl, hw9⟩; have HX9 := hideit (Ext.trans HX.out hw9); clear hw9) | (go_at_call 8; refine (hs2.out _ HX9.out).mono ?_; rintro e w10 ⟨rfl, hw10⟩; have HX10 := hideit (Ext.trans HX9.out hw10); clear hw10))
            refine ⟨⟨i + 1, by omega, by go_num, mb, d1, d2, rfl, hL.out ▸ HP.out.carry HX10.out⟩, by simp [intOf]; omega⟩
        · obtain rfl : i = n := by omega
          have i1 : ¬ (i : Int) < (i : Int) := by omega
          have hLT : sumL ls i ≤ 1048576 := hT.out
          obtain ⟨oa, cp, hv8⟩ := own_form HS.out.own
          subst hv8
          obtain ⟨R, hRR⟩ : ∃ R, R = tagF l0 b0 (M ls bs i) (sumL ls i) := ⟨_, rfl⟩
          have hs3 : ∀ X, Ext wr X → Calls Tryd.prog 14 #[.pointer (some ⟨mb, 0, none⟩)] X fun e w' => e = .returned (.agg (row 32 (yv R)).toArray) ∧ Below X.heap.size X w' := fun X hX => by
            rw [hRR]
            have hm := HS.out.mac.carry hX
            rw [hrk.out] at hm
            exact macSum mb _ d1 d2 l0 b0 _ X hm (hC.out.ext (Ext.trans HS.out.ext hX)) (by omega)
          have hs2 : ∀ X, Ext wr X → Calls Tryd.prog 8 #[.slice o0 l0 c0, .slice oa (sumL ls i) cp] X fun e w' => e = .returned (.agg (row 32 (yv R)).toArray) ∧ Below X.heap.size X w' := fun X hX => by
            rw [hRR]; exact rTag_any _ _ l0 _ b0 _ X (hK.out.ext (Ext.trans HS.out.ext hX)) ((OwnB.bv HS.out.own).ext hX) hl0 (by omega)
          replace hs2 := hideit hs2
          replace hs3 := hideit hs3
          have hq := eq24 R
          have hqz := eq24 (fun _ => 0#8)
          clear hRR
          go_upto_region 25 with (go_at_call 13; refine (nilWrite _ _).mono ?_; rintro e w9 ⟨rfl, hw9⟩; subst hw9)
          refine wp_region_lit ?_
          refine wpList_run rfl (.pointer (some ⟨mb, 0, none⟩)) (by simp [go_sem]) ?_
          simp only [Act.put, List.setIfInBounds_toArray, List.set_cons_zero, List.set_cons_succ]
          refine wpList_call rfl (by simp [go_sem]) ((hs3.out _ (Ext.refl _)).mono ?_)
          rintro e x1 ⟨rfl, hx1⟩
          refine ⟨_, rfl, ?_⟩
          simp only [Act.put, List.setIfInBounds_toArray, List.set_cons_zero, List.set_cons_succ]
          refine wpList_run rfl (.slice o0 l0 c0) (by simp [go_sem]) ?_
          simp only [Act.put, List.setIfInBounds_toArray, List.set_cons_zero, List.set_cons_succ]
          refine wpList_run rfl (.slice oa (sumL ls i) cp) (by simp [go_sem]) ?_
          simp only [Act.put, List.setIfInBounds_toArray, List.set_cons_zero, List.set_cons_succ]
          refine wpList_call rfl (by simp [go_sem]) ((hs2.out _ hx1).mono ?_)
          rintro e x2 ⟨rfl, hx2'⟩
          have HX2 := hideit (Ext.trans hx1 hx2')
          clear hx1 hx2'
          refine ⟨_, rfl, ?_⟩
          simp only [Act.put, List.setIfInBounds_toArray, List.set_cons_zero, List.set_cons_succ]
          refine wpList_run rfl (.bool true) (by simp [go_sem, hq]) ?_
          simp only [Act.put, List.setIfInBounds_toArray, List.set_cons_zero, List.set_cons_succ]
          refine wpList_run rfl (.bool true) (by simp [go_sem]) ?_
          simp only [Act.put, List.setIfInBounds_toArray, List.set_cons_zero, List.set_cons_succ]
          refine wpList_runW rfl (.pointer none) (by simp [go_sem]) ?_
          simp only [Act.put, List.setIfInBounds_toArray, List.set_cons_zero, List.set_cons_succ]
          refine wpList_callW rfl (by simp [go_sem]) ((nilSum _).mono ?_)
          rintro e x3 ⟨rfl, hx3⟩
          have HX3 := hideit (Ext.trans HX2.out hx3)
          clear hx3 HX2
          refine ⟨_, rfl, ?_⟩
          simp only [Act.put, List.setIfInBounds_toArray, List.set_cons_zero, List.set_cons_succ]
          refine wpList_buildW rfl 23 [] rfl _ (zbuild23 _) ?_
          simp only [Act.put, List.setIfInBounds_toArray, List.set_cons_zero, List.set_cons_succ]
          refine wpList_runW rfl (.bool true) (by simp [go_sem, hqz]) ?_
          simp only [Act.put, List.setIfInBounds_toArray, List.set_cons_zero, List.set_cons_succ]
          refine wpList_run rfl (.bool true) (by simp [go_sem]) ?_
          simp only [Act.put, List.setIfInBounds_toArray, List.set_cons_zero, List.set_cons_succ]
          refine wpList_run rfl (.bool true) (by simp [go_sem]) ?_
          simp only [Act.put, List.setIfInBounds_toArray, List.set_cons_zero, List.set_cons_succ]
          refine wpList_runW rfl (.pointer none) (by simp [go_sem]) ?_
          simp only [Act.put, List.setIfInBounds_toArray, List.set_cons_zero, List.set_cons_succ]
          refine wpList_callW rfl (by simp [go_sem]) ((nilFork _).mono ?_)
          rintro e x4 ⟨rfl, hx4⟩
          subst hx4
          refine ⟨_, rfl, ?_⟩
          simp only [Act.put, List.setIfInBounds_toArray, List.set_cons_zero, List.set_cons_succ]
          refine wpList_runW rfl (.bool true) (by simp [go_sem]) ?_
          simp only [Act.put, List.setIfInBounds_toArray, List.set_cons_zero, List.set_cons_succ]
          refine wpList_run rfl (.bool true) (by simp [go_sem]) ?_
          simp only [Act.put, List.setIfInBounds_toArray, List.set_cons_zero, List.set_cons_succ]
          refine wpList_run rfl (.bool true) (by simp [go_sem]) ?_
          simp only [Act.put, List.setIfInBounds_toArray, List.set_cons_zero, List.set_cons_succ]
          go_wp2
          go_ret
          exact ⟨rfl, Ext.trans HS.out.ext HX3.out⟩


theorem contract (H : Type) (enc : TypeId × Value → H) (W : World) (base : Nat) (args : Array Value) (ds gs : List (DataW H)) (before : List MemPlace)
    (hval0 : ∀ (j : Nat) t v, Tryd.f4.params[j]? = some t → args[j]? = some v → Value.okWide Tryd.prog W .any base t v)
    (hW : DataW.Whole enc Tryd.prog Tryd.f4.params.toList Rows.hmacPiecesSpec.vars false W args.toList ds gs before) (hL : laidMetH Tryd.prog Rows.hmacPiecesUptoRow.laid W) (hB : Rows.uptoSmall H (ds ++ gs) = true) :
    Calls Tryd.prog 4 args W fun e W' => ∃ v, e = .returned v ∧ Rows.hmacPiecesSpec.post enc Tryd.prog Tryd.f4 false true false false W args v W' := by
  have hval := hval0
  have hW' := hW
  obtain ⟨p, q, hA0, hV, rfl, hfz, hnd⟩ := hW
  have hA : DataW.TrodAll enc Tryd.prog W 0 (fun _ => true) true Tryd.f4.params.toList args.toList ds p := hA0
  rw [Tryd.params4] at hA hval
  obtain ⟨v0, vs0, d0, ds0, p0, q0, hargs, rfl, rfl, h0, r0⟩ := trodAll_cons hA
  obtain ⟨v1, vs1, d1, ds1, p1, q1, rfl, rfl, rfl, h1, r1⟩ := trodAll_cons r0
  obtain ⟨rfl, rfl, rfl⟩ := trodAll_nil r1
  obtain rfl : args = #[v0, v1] := by cases args; simp_all
  obtain ⟨rfl, rfl⟩ := trodVars_none hV
  have h0s : 0 < W.heap.size := by
    have hc := (table hL).cell gTab 0 (by decide)
    rcases Nat.lt_or_ge 0 W.heap.size with h | h
    · exact h
    · exfalso
      have : W.heap[0]? = none := Array.getElem?_eq_none h
      simp [World.cell?, this] at hc
  have hC : TabC W := tabC hL h0s
  have k0 := h0
  have lt0 : ∀ x ∈ p0, x.block < W.heap.size := by obtain ⟨m, hm⟩ := k0; exact DataW.trod_lt m _ _ _ hm
  have k1 := h1
  have lt1 : ∀ x ∈ p1, x.block < W.heap.size := by obtain ⟨m, hm⟩ := k1; exact DataW.trod_lt m _ _ _ hm
  have B0 := bargU (hval 0 22 v0 rfl rfl) h0 (Nat.le_trans (bulk_mem (by simp)) (of_decide_eq_true hB))
  have B1 := parg (hval 1 28 v1 rfl rfl) h1 (Nat.le_trans (by simp [Rows.uptoBulkAll]) (of_decide_eq_true hB))
  clear hA0 hval0
  refine (walk v0 v1 W B0 B1 hC).mono fun e W' ⟨he, bel⟩ => ?_
  subst he
  exact ⟨_, rfl, _, _, _, [], _, [], hW', trodAll_mk1 (shut_bool Tryd.underlying4 _), (trodAll_cons_mk (Below.trod laidOut (by kernel_rfl) (of_decide_eq_true (by kernel_rfl)) k0 bel lt0) (trodAll_cons_mk (Below.trod laidOut (by kernel_rfl) (of_decide_eq_true (by kernel_rfl)) k1 bel lt1) trodAll_mk0)), rfl, bel.frame _, fun h => by cases h⟩

def wit : Array Value := #[.slice none 0 0, .slice none 0 0]
def dat {H : Type} : List (DataW H) := [.nil, .nil]
def setTab : Obj → Obj
  | .cells _ t frozen => .cells (tabL.map fun z => Value.int .u32 z).toArray t frozen
  | o => o
theorem laid_met (os : Os) : laidMet Tryd.prog Rows.hmacPiecesUptoRow.laid (({ World.holding Tryd.prog os ⟨#[], #[], []⟩ with heap := (World.holding Tryd.prog os ⟨#[], #[], []⟩).heap.modify 0 setTab } : World).forCall (fun _ _ => 0) ⟨#[], wit, []⟩).memory :=
  laidMet_of_run' 8 (by kernel_rfl) (by kernel_rfl)
theorem reads (os : Os) {H : Type} (enc : TypeId × Value → H) : ∃ places, DataW.whole enc Tryd.prog (({ World.holding Tryd.prog os ⟨#[], #[], []⟩ with heap := (World.holding Tryd.prog os ⟨#[], #[], []⟩).heap.modify 0 setTab } : World).forCall (fun _ _ => 0) ⟨#[], wit, []⟩).memory Tryd.f4.params.toList Rows.hmacPiecesSpec.vars false wit.toList 8 = some (dat, [], places) :=
  ⟨[], by kernel_rfl⟩

set_option maxRecDepth 100000 in
theorem lifted (os : Os) (started : os.Started) (H : Type) (enc : TypeId × Value → H) (F : Stop.Interp) :
    ReturnsInHanded {} Tryd.checked os 4 .any ((Rows.OpenSpec.upto Rows.hmacPiecesSpec).preRow enc Tryd.prog Tryd.f4 Rows.hmacPiecesUptoRow.domain false Rows.hmacPiecesUptoRow.laid) (((Rows.OpenSpec.upto Rows.hmacPiecesSpec).at F).post enc Tryd.prog Tryd.f4 false true false false) := by
  obtain ⟨places, hx⟩ := reads os enc
  refine returnsInHanded_of_row (C := Tryd.checked) (s := (Rows.OpenSpec.upto Rows.hmacPiecesSpec)) own started (by kernel_rfl) Tryd.func4
    (witness_row_at (enc := enc) (C := Tryd.checked) false ({ World.holding Tryd.prog os ⟨#[], #[], []⟩ with heap := (World.holding Tryd.prog os ⟨#[], #[], []⟩).heap.modify 0 setTab } : World) wit rfl (by kernel_rfl) (by kernel_rfl) (by kernel_rfl)
      (OpenSpec.preRow_of_cond 8 hx (by kernel_rfl) (fun k hk => by cases hk; kernel_rfl) (by kernel_rfl) (laid_met os))) ?_
  intro W base args ds gs before hval hW _ hcond hsz hL _ _
  exact contract H enc W base args ds gs before hval hW hL (hcond _ rfl)

theorem said : Rows.HmacPiecesUptoSaid :=
  OpenClaim.holds_of_cond 4 Tryd.f4 rfl rfl rfl rfl rfl rfl rfl ⟨rfl, rfl, rfl, rfl, rfl⟩ rfl rfl rfl rfl rfl (by kernel_rfl) Tryd.func4 (by kernel_rfl)
    (of_decide_eq_true (by kernel_rfl)) (by unfold Func.isWrapper; first | (rw [if_pos (by decide +kernel)]; kernel_rfl) | (rw [if_neg (by decide +kernel)]; exact ⟨rfl, rfl⟩))
    (fun os started H enc _ F => by rw [OpenClaim.pre_eq_preRow]; exact lifted os started H enc F)

theorem plain (f : FuncId) (fn : Func) (hf : Tryd.pinned.checked.prog.funcNamed "casket/casketlaw05.HmacPieces" = some f) (hfn : Tryd.pinned.checked.prog.funcs[f]? = some fn) :
    false = Tryd.pinned.checked.prog.looks [] ∧ ∀ (j : Nat) t, fn.params[j]? = some t → Tryd.pinned.checked.prog.wantsStandIn t = false := by
  obtain rfl : f = 4 := Option.some.inj ((show Tryd.prog.funcNamed "casket/casketlaw05.HmacPieces" = some 4 by kernel_rfl).symm.trans hf) |>.symm
  obtain rfl : fn = Tryd.f4 := (Option.some.inj (Tryd.func4.symm.trans hfn)).symm
  refine ⟨by kernel_rfl, fun j t ht => ?_⟩
  rw [Tryd.params4] at ht
  have hm : t ∈ [22, 28] := by simpa using Array.mem_of_getElem? ht
  have hall : ([22, 28].all fun u => !Tryd.prog.wantsStandIn u) = true := by kernel_rfl
  exact (show Tryd.prog.wantsStandIn t = false by simpa using List.all_eq_true.1 hall t hm)

theorem card : Rows.HmacPiecesUptoCardSaid :=
  Claim7.holds_tied_plain_at .later [] _ _ _ _ said (fun _ h => by cases h) (by kernel_rfl) (fun _ h => by cases h) hmacPiecesUpto_row_tie rfl ⟨rfl, rfl⟩ (by kernel_rfl) rfl plain (by kernel_rfl)
end Go.Proofs.YthgflnjeojhgkaaDoor.hmacPieces
namespace Go.Proofs.YthgflnjeojhgkaaDoor
theorem hmacPieces_holds : Rows.HmacPiecesUptoCardSaid := hmacPieces.card
end Go.Proofs.YthgflnjeojhgkaaDoor
