/-
  The document's own table of boxes: the powers of 3. The document's own adding of a round key and turning of rows.
-/
import Derived.Test.YtkoodgfadedeoaaQ26
import Derived.Test.YtkoodgfadedeoaaQ7
import Derived.Test.YtkoodgfadedeoaaQ8
namespace Go.Proofs.Ytkoodgfadedeoaa
open Go.RowKit Go.BigFrame
theorem zero45 (w : World) : Sem.run Try.prog (zeroValue 37) w = .ok (.agg (row 256 (yv fun _ => 0#8)).toArray) w := by kernel_rfl
theorem info45 : (Try.prog.info? 37).map (·.size) = some 256 := by kernel_rfl
theorem rturn_below (a : BitVec 8) (w : World) : Calls Try.prog 55 #[.int .u8 (a.toNat : Int)] w fun e w' => e = .returned (.int .u8 ((turnB a).toNat : Int)) ∧ Below w.heap.size w w' :=
  (rturn_any a w).mono fun e w' h => ⟨h.1, by rw [h.2]; exact Below.refl _ _⟩
def powP (n j : Nat) : BitVec 8 := if j < n then p3 j else 0#8
def PowAt (B : Nat) (w : World) (n : Nat) (X : World) : Prop := RowAt B 256 (yv fun _ => 0#8) X ∧ RowAt (B + 1) 256 (yv (powP n)) X ∧ Below B w X
theorem PowAt.step {B : Nat} {w X : World} {n : Nat} (h : PowAt B w n X) : PowAt B w (n + 1) (X.setCell ⟨B + 1, n, none⟩ (.int .u8 ((p3 n).toNat : Int))) := by
  refine ⟨h.1.other _ _ (by simp), (h.2.1.set n _).congr fun j _ => ?_, h.2.2.setCell (by simp) _⟩
  by_cases e : j = n
  · subst e
    simp only [if_true, yv, powP, if_pos (Nat.lt_succ_self j)]
  · simp only [if_neg e, yv, powP, show (j < n + 1) ↔ (j < n) by omega]
def OutAt (B d : Nat) (w : World) (n : Nat) (X : World) : Prop := RowAt B 256 (yv fun _ => 0#8) X ∧ RowAt (B + 1) 256 (yv p3) X ∧ RowAt d 256 (yv (oK n)) X ∧ Below B w X
theorem OutAt.draw {B d : Nat} {w X Y : World} {n : Nat} (h : OutAt B d w n X) (hB : w.heap.size = B) (e : Ext X.drew Y) : OutAt B d w n Y :=
  ⟨h.1.drew.carry e, h.2.1.drew.carry e, h.2.2.1.drew.carry e, Below.trans h.2.2.2.drew (Below.mono e (by have := Below.size h.2.2.2; rw [hB] at this; exact this))⟩
theorem OutAt.step {B d : Nat} {w X : World} {n : Nat} (hd : B + 2 ≤ d) (h : OutAt B d w n X) : OutAt B d w (n + 1) (X.setCell ⟨d, (p3 n).toNat, none⟩ (.int .u8 ((turnB (p3 (255 - n))).toNat : Int))) := by
  refine ⟨h.1.other _ _ (by show d ≠ B; omega), h.2.1.other _ _ (by show d ≠ B + 1; omega), (h.2.2.1.set _ _).congr fun j _ => ?_, h.2.2.2.setCell (by show B ≤ d; omega) _⟩
  simp only [yv, oK]
  by_cases e : j = (p3 n).toNat
  · rw [if_pos e, if_pos e]
  · rw [if_neg e, if_neg e]
set_option maxRecDepth 20000 in
set_option maxHeartbeats 2000000 in
theorem rboxes_any (w : World) : Calls Try.prog 29 #[] w fun e w' => e = .returned (.agg (row 256 (yv bxT)).toArray) ∧ Below w.heap.size w w' := by
  have hz := zero45
  have HS : PowAt w.heap.size w (0 + 1) ((w.alloc (.cells (row 256 (yv fun _ => 0#8)).toArray 37)).alloc (.cells ((row 256 (yv fun _ => 0#8)).set 0 (.int .u8 1)).toArray 37)) := by
    refine ⟨(RowAt.new w 256 (yv fun _ => 0#8) 37).alloc _, ?_, ((Below.refl _ _).alloc (Nat.le_refl _) _).alloc (by simp) _⟩
    have := RowAt.newOf (w.alloc (.cells (row 256 (yv fun _ => 0#8)).toArray 37)) 256 (yv (powP 1)) 37 ((row 256 (yv fun _ => 0#8)).set 0 (.int .u8 1)).toArray (fun j hj => by
      rw [List.getElem?_toArray, List.getElem?_set]
      by_cases e : 0 = j
      · subst e
        rw [if_pos rfl, if_pos (by rw [row_length]; omega)]
        rfl
      · rw [if_neg e, row_get 256 _ j hj]
        simp only [yv, powP]
        rw [if_neg (by omega)])
    simpa using this
  replace HS := hideit HS
  go_enter Try.func29, Try.ntmps29
  go_wp2
  go_loopw [2] (fun i wr => ∃ n : Nat, n < 256 ∧ i = .int .i64 ((n : Int) + 1) ∧ PowAt w.heap.size w (n + 1) wr) (fun i _ => 256 - (intOf i).toNat)
  case atStart => exact ⟨0, by omega, rfl, HS.out⟩
  case round =>
    obtain ⟨n, hn, rfl, hT⟩ := hrel
    have HT := hideit hT
    clear hT HS
    by_cases hlt : n < 255
    · have i1 : (n : Int) < 255 := by omega
      obtain ⟨x, hx⟩ : ∃ x, x = p3 n := ⟨_, rfl⟩
      have hxs : p3 (n + 1) = mB x 3#8 := by rw [hx]; rfl
      have e1 : wr.cell? ⟨w.heap.size + 1, n, none⟩ = some (.int .u8 (x.toNat : Int)) := by
        rw [HT.out.2.1.1 n (by omega), hx]
        simp only [yv, powP, if_pos (Nat.lt_succ_self n)]
      have e1' : wr.cell? ⟨w.heap.size + 1, n + 1 - 1, none⟩ = some (.int .u8 (x.toNat : Int)) := e1
      have e2 := HT.out.2.1.1 (n + 1) (by omega)
      have g2 := HT.out.2.1.2.1 (n + 1) (by omega)
      have HI : PowAt w.heap.size w (n + 1 + 1) (wr.setCell ⟨w.heap.size + 1, n + 1, none⟩ (.int .u8 ((mB x 3#8).toNat : Int))) := by
        rw [← hxs]
        exact HT.out.step
      replace HI := hideit HI
      replace hx := hideit hx
      replace hxs := hideit hxs
      go_wp2_with (go_at_call 30; refine (rmul_any x 3#8 _).mono ?_; rintro e w2 ⟨rfl, h2⟩; rw [h2])
      go_roundw
      case rel =>
        first | exact ⟨(n + 1 : Nat), by omega, by go_num, HI.out⟩ | ((repeat apply Exists.intro); exact ⟨⟨n + 1, by omega, by go_num, HI.out⟩, rfl⟩)
      case measure => simp [intOf]; omega
    · obtain rfl : n = 255 := by omega
      have HP := hideit (HT.out.2.1.congr (g' := yv p3) (fun j hj => by simp only [yv, powP]; rw [if_pos (by omega)]))
      have hsz : w.heap.size + 1 < wr.heap.size := HT.out.2.1.2.2
      obtain ⟨d, hd⟩ : ∃ d, d = wr.heap.size := ⟨_, rfl⟩
      have hd2 : w.heap.size + 2 ≤ d := by omega
      obtain ⟨t0, ht0⟩ : ∃ t, t = turnB 0#8 := ⟨_, rfl⟩
      have HO : OutAt w.heap.size d w 0 (wr.alloc (.cells ((row 256 (yv fun _ => 0#8)).set 0 (.int .u8 (t0.toNat : Int))).toArray 37)) := by
        refine ⟨HT.out.1.alloc _, HP.out.alloc _, ?_, HT.out.2.2.alloc (by omega) _⟩
        rw [hd]
        exact RowAt.newOf wr 256 (yv (oK 0)) 37 _ (fun j hj => by
          rw [List.getElem?_toArray, List.getElem?_set]
          by_cases e : 0 = j
          · subst e
            rw [if_pos rfl, if_pos (by rw [row_length]; omega), ht0]
            rfl
          · rw [if_neg e, row_get 256 _ j hj]
            simp only [yv, oK]
            rw [if_neg (Ne.symm e)])
      replace HO := hideit HO
      replace ht0 := hideit ht0
      clear HT HP
      go_upto_region 9 with (go_at_call 55; refine (rturn_any 0#8 _).mono ?_; rw [← ht0.out]; rintro e w2 ⟨rfl, h2⟩; rw [h2])
      rw [← hd]
      clear hd
      generalize wr.alloc (.cells ((row 256 (yv fun _ => 0#8)).set 0 (.int .u8 (t0.toNat : Int))).toArray 37) = Y at *
      go_wp2
      go_loopw [4] (fun i wr => ∃ n : Nat, n ≤ 255 ∧ i = .int .i64 n ∧ OutAt w.heap.size d w n wr) (fun i _ => 255 - (intOf i).toNat)
      case atStart => exact ⟨0, by omega, rfl, HO.out⟩
      case round =>
        obtain ⟨n, hn, rfl, hT⟩ := hrel
        have HT := hideit hT
        clear hT HO
        by_cases hlt : n < 255
        · have n0 : (0 : Int) ≤ (n : Int) := by omega
          have n1 : (n : Int) < 255 := by omega
          obtain ⟨x, hx⟩ : ∃ x, x = p3 n := ⟨_, rfl⟩
          obtain ⟨y, hy⟩ : ∃ y, y = p3 (255 - n) := ⟨_, rfl⟩
          have hxl := x.isLt
          have hxi : (x.toNat : Int) < 256 := by omega
          have e1 : ∀ q : Kept (Ext wr.drew), q.w.cell? ⟨w.heap.size + 1, n, none⟩ = some (.int .u8 (x.toNat : Int)) := fun q => by
            rw [(HT.out.2.1.drew.carry q.ok).1 n (by omega), hx]
            rfl
          have e2 : ∀ q : Kept (Ext wr.drew), q.w.cell? ⟨w.heap.size + 1, 255 - n, none⟩ = some (.int .u8 (y.toNat : Int)) := fun q => by
            rw [(HT.out.2.1.drew.carry q.ok).1 (255 - n) (by omega), hy]
            rfl
          have HST : ∀ X, OutAt w.heap.size d w n X → OutAt w.heap.size d w (n + 1) (X.setCell ⟨d, x.toNat, none⟩ (.int .u8 ((turnB y).toNat : Int))) := fun X h => by
            rw [hx, hy]
            exact h.step hd2
          replace hx := hideit hx
          replace hy := hideit hy
          replace HST := hideit HST
          go_upto_region 12 with fail
          have hne := kept_ne (wr).drew
          refine wp_region_late 9 (by kernel_rfl) (by kernel_rfl) (by decide) ?_
          simp only [List.take_succ_cons, List.take_zero, List.drop_succ_cons, List.drop_zero]
          refine wpStrong_run 7 rfl ?_
          simp only [List.take_succ_cons, List.take_zero, List.drop_succ_cons, List.drop_zero]
          repeat (go_big_quiet_step (fail))
          refine wpQuiet_nil ?_
          refine wpStrong_call rfl (fun X => by simp [go_sem]) (fun X hX => rturn_below y X) ?_
          simp only [Act.put, List.setIfInBounds_toArray, List.set_cons_zero, List.set_cons_succ]
          refine wpStrong_run 1 rfl ?_
          simp only [List.take_succ_cons, List.take_zero, List.drop_succ_cons, List.drop_zero]
          repeat (go_big_quiet_step (fail))
          refine wpQuiet_nil ?_
          refine wpStrong_nil ?_
          intro X hX
          have HX := hideit (OutAt.draw HT.out rfl hX)
          clear hX e1 e2
          have e4 := HX.out.2.2.1.1 x.toNat hxl
          have g4 := HX.out.2.2.1.2.1 x.toNat hxl
          have HI := hideit (HST.out X HX.out)
          go_wp2
          go_roundw
          case rel =>
            first | exact ⟨(n + 1 : Nat), by omega, by go_num, HI.out⟩ | ((repeat apply Exists.intro); exact ⟨⟨n + 1, by omega, by go_num, HI.out⟩, rfl⟩)
          case measure => simp [intOf]; omega
        · obtain rfl : n = 255 := by omega
          have HR := hideit (HT.out.2.2.1.congr (g' := yv bxT) (fun j hj => by simp only [yv]; rw [oK_end j hj]))
          have HR0 := hideit HT.out.1
          have HB := hideit HT.out.2.2.2
          clear HT
          go_wp2_with (first | (refine wpList_load_mid rfl 37 (.tmp 3) rfl _ 0 rfl (row 256 (yv bxT)) _ HR.out.range Try.underlying37 rfl (by rw [row_length]; exact info45) ?_) | (refine wpList_store_mid rfl 37 (.tmp 0) (.tmp 32) rfl _ 0 (row 256 (yv bxT)).toArray rfl rfl (by rw [row_size]; exact HR0.out.there) (by rw [row_size]; exact info45) (row_one fun _ _ => rfl) ?_))
          exact bodyPost_ret (ret_row Try.results29 rfl (HR0.out.cells (g' := yv bxT)) Try.underlying37 rfl info45) rfl ⟨rfl, below_setCells _ (Nat.le_refl _) _ _ _ HB.out⟩
end Go.Proofs.Ytkoodgfadedeoaa
namespace Go.Proofs.Ytkoodgfadedeoaa
open Go.RowKit Go.BigFrame
set_option maxRecDepth 20000 in
set_option maxHeartbeats 1000000 in
theorem radd_any (f k : Nat → BitVec 8) (w : World) :
    Calls Try.prog 35 #[.agg (row 16 (yv f)).toArray, .agg (row 16 (yv k)).toArray] w fun e w' => e = .returned (.agg (row 16 (yv (addF f k))).toArray) ∧ Below w.heap.size w w' := by
  have hz := zero32
  go_enter Try.func35, Try.ntmps35
  go_wp2
  go_loopw [5] (fun i wr => ∃ n : Nat, n ≤ 16 ∧ i = .int .i64 n ∧ AddAt w.heap.size w f k n wr) (fun i _ => 16 - (intOf i).toNat)
  case atStart =>
    refine ⟨0, by omega, rfl, ?_, ?_, ?_, ?_⟩
    · exact (((RowAt.new w 16 (yv f) 23).alloc _).alloc _).congr (fun j _ => by simp [yv])
    · have := (RowAt.new (w.alloc (Obj.cells (row 16 (yv f)).toArray 23)) 16 (yv k) 23).alloc (Obj.cells Y16 23)
      simpa using this
    · have := RowAt.newOf ((w.alloc (Obj.cells (row 16 (yv f)).toArray 23)).alloc (Obj.cells (row 16 (yv k)).toArray 23)) 16 (yv fun _ => 0#8) 23 Y16 (fun j hj => Y16_get j hj _ rfl)
      simpa using this
    · exact (((Below.refl _ _).alloc (Nat.le_refl _) _).alloc (by simp) _).alloc (by simp; omega) _
  case round =>
    obtain ⟨n, hn, rfl, hT⟩ := hrel
    by_cases hlt : n < 16
    · have HT := hideit hT
      obtain ⟨h1, h2, _, _⟩ := hT
      have e1 := h1.1 n hlt
      have e2 := h2.1 n hlt
      have g1 := h1.2.1 n hlt
      simp only [yv, if_neg (Nat.lt_irrefl n)] at e1 e2
      clear h1 h2
      have b1 := (f n).isLt
      have b2 := (k n).isLt
      have o1 : bits .xor .u8 ((f n).toNat : Int) ((k n).toNat : Int) = ((addF f k n).toNat : Int) := xB_fact _ _
      have i0 : (0 : Int) ≤ (n : Int) := by omega
      have i1 : (n : Int) < 16 := by omega
      go_wp2
      go_region
      all_goals (try go_wp2)
      go_roundw
      case rel =>
        first | exact ⟨(n + 1 : Nat), by omega, by go_num, HT.out.step⟩ | ((repeat apply Exists.intro); exact ⟨⟨n + 1, by omega, by go_num, HT.out.step⟩, rfl⟩)
      case measure => simp [intOf]; omega
    · obtain rfl : n = 16 := by omega
      obtain ⟨h1, _, h3, hB⟩ := hT
      have HR := hideit (h1.congr (g' := yv (addF f k)) (fun j hj => by simp [yv, hj]))
      have HR0 := hideit h3
      clear h1 h3
      go_wp2_with (first | (refine wpList_load_mid rfl 23 (.tmp 2) rfl _ 0 rfl (row 16 (yv (addF f k))) _ HR.out.range Try.underlying23 rfl (by rw [row_length]; exact info32) ?_) | (refine wpList_store_mid rfl 23 (.tmp 4) (.tmp 19) rfl _ 0 (row 16 (yv (addF f k))).toArray rfl rfl (by rw [row_size]; exact HR0.out.there) (by rw [row_size]; exact info32) (row_one fun _ _ => rfl) ?_))
      exact bodyPost_ret (ret_row Try.results35 rfl (HR0.out.cells (g' := yv (addF f k))) Try.underlying23 rfl info32) rfl ⟨rfl, below_setCells _ (by omega) _ _ _ hB⟩
def ShiftAt (B : Nat) (w : World) (f : Nat → BitVec 8) (i : Nat) (X : World) : Prop :=
  RowAt B 16 (yv f) X ∧ RowAt (B + 1) 16 (yv fun _ => 0#8) X ∧ RowAt (B + 1 + 1) 16 (yv fun j => if j < i then turnF 1 f j else 0#8) X ∧ Below B w X
theorem ShiftAt.step {B : Nat} {w X : World} {f : Nat → BitVec 8} {i : Nat} (h : ShiftAt B w f i X) : ShiftAt B w f (i + 1) (X.setCell ⟨B + 1 + 1, i, none⟩ (.int .u8 ((turnF 1 f i).toNat : Int))) := by
  obtain ⟨h1, h2, h3, h4⟩ := h
  refine ⟨h1.other _ _ (by simp; omega), h2.other _ _ (by simp), (h3.set i _).congr ?_, h4.setCell (by simp; omega) _⟩
  intro j _
  by_cases e : j = i
  · subst e; simp [yv]
  · have : (j < i + 1) ↔ (j < i) := by omega
    simp [yv, e, this]
theorem shift_at : ∀ c, c < 4 → ∀ r, r < 4 → (4 * c + r + 4 * ((4 * c + r) % 4) * 1) % 16 = 4 * ((c + r) % 4) + r := by decide
set_option maxRecDepth 20000 in
set_option maxHeartbeats 1000000 in
theorem shift_any (f : Nat → BitVec 8) (w : World) :
    Calls Try.prog 36 #[.agg (row 16 (yv f)).toArray] w fun e w' => e = .returned (.agg (row 16 (yv (turnF 1 f))).toArray) ∧ Below w.heap.size w w' := by
  have hz := store_Y16
  have HS : ShiftAt w.heap.size w f (4 * 0) (((w.alloc (.cells (row 16 (yv f)).toArray 23)).alloc (.cells (row 16 (yv fun _ => 0#8)).toArray 23)).alloc (.cells (row 16 (yv fun _ => 0#8)).toArray 23)) := by
    refine ⟨((RowAt.new w 16 (yv f) 23).alloc _).alloc _, ?_, ?_, (((Below.refl _ _).alloc (Nat.le_refl _) _).alloc (by simp) _).alloc (by simp; omega) _⟩
    · have := (RowAt.new (w.alloc (Obj.cells (row 16 (yv f)).toArray 23)) 16 (yv fun _ => 0#8) 23).alloc (.cells (row 16 (yv fun _ => 0#8)).toArray 23)
      simpa using this
    · have := RowAt.new ((w.alloc (Obj.cells (row 16 (yv f)).toArray 23)).alloc (Obj.cells (row 16 (yv fun _ => 0#8)).toArray 23)) 16 (yv fun _ => 0#8) 23
      simpa using this
  replace HS := hideit HS
  go_enter Try.func36, Try.ntmps36
  go_wp2
  go_loopw [4] (fun i wr => ∃ n : Nat, n ≤ 4 ∧ i = .int .i64 n ∧ ShiftAt w.heap.size w f (4 * n) wr) (fun i _ => 4 - (intOf i).toNat)
  case atStart => exact ⟨0, by omega, rfl, HS.out⟩
  case round =>
    obtain ⟨n, hn, rfl, hT⟩ := hrel
    have HT := hideit hT
    clear hT HS
    by_cases hlt : n < 4
    · have i1 : (n : Int) < 4 := by omega
      go_wp2
      go_loopw [5] (fun i wr => ∃ m : Nat, m ≤ 4 ∧ i = .int .i64 m ∧ ShiftAt w.heap.size w f (4 * n + m) wr) (fun i _ => 4 - (intOf i).toNat)
      case atStart => exact ⟨0, by omega, rfl, HT.out⟩
      case round =>
        obtain ⟨m, hm, rfl, hT⟩ := hrel
        have HV := hideit hT
        clear hT HT
        by_cases hlt4 : m < 4
        · have m1 : (m : Int) < 4 := by omega
          obtain ⟨z, hz0⟩ : ∃ z : Nat, z = (n + m) % 4 := ⟨_, rfl⟩
          have hz4 : z < 4 := by omega
          have hzi : (z : Int) < 4 := by omega
          have ht : ((n : Int) + (m : Int)).tmod 4 = (z : Int) := by
            rw [Int.tmod_eq_emod_of_nonneg (by omega), hz0]
            omega
          have e1 : wr.cell? ⟨w.heap.size, 4 * z + m, none⟩ = some (.int .u8 ((turnF 1 f (4 * n + m)).toNat : Int)) := by
            rw [HV.out.1.1 (4 * z + m) (by omega), hz0]
            simp only [yv, turnF]
            rw [shift_at n hlt m hlt4]
          have e2 := HV.out.2.2.1.1 (4 * n + m) (by omega)
          have g2 := HV.out.2.2.1.2.1 (4 * n + m) (by omega)
          replace hz0 := hideit hz0
          go_wp2
          go_roundw
          case rel =>
            first | exact ⟨(m + 1 : Nat), by omega, by go_num, HV.out.step⟩ | ((repeat apply Exists.intro); exact ⟨⟨m + 1, by omega, by go_num, HV.out.step⟩, rfl⟩)
          case measure => simp [intOf]; omega
        · obtain rfl : m = 4 := by omega
          go_wp2
          go_roundw
          case rel =>
            have HI : ShiftAt w.heap.size w f (4 * (n + 1)) wr := HV.out
            first | exact ⟨(n + 1 : Nat), by omega, by go_num, HI⟩ | ((repeat apply Exists.intro); exact ⟨⟨n + 1, by omega, by go_num, HI⟩, rfl⟩)
          case measure => simp [intOf]; omega
    · obtain rfl : n = 4 := by omega
      have HR := hideit (HT.out.2.2.1.congr (g' := yv (turnF 1 f)) (fun j hj => by simp only [yv]; rw [if_pos (by omega)]))
      have HR0 := hideit HT.out.2.1
      have HB := hideit HT.out.2.2.2
      clear HT
      go_wp2_with (first | (refine wpList_load_mid rfl 23 (.tmp 3) rfl _ 0 rfl (row 16 (yv (turnF 1 f))) _ HR.out.range Try.underlying23 rfl (by rw [row_length]; exact info32) ?_) | (refine wpList_store_mid rfl 23 (.tmp 2) (.tmp 28) rfl _ 0 (row 16 (yv (turnF 1 f))).toArray rfl rfl (by rw [row_size]; exact HR0.out.there) (by rw [row_size]; exact info32) (row_one fun _ _ => rfl) ?_))
      exact bodyPost_ret (ret_row Try.results36 rfl (HR0.out.cells (g' := yv (turnF 1 f))) Try.underlying23 rfl info32) rfl ⟨rfl, below_setCells _ (by omega) _ _ _ HB.out⟩
end Go.Proofs.Ytkoodgfadedeoaa
