/-
  Powers of 3, and boxes by them. The document's own mixing of columns, by a row of factors. The document's own table of boxes: the powers of 3.
-/
import Derived.Test.YtfpfgbhdehbggaaGreatDoorQa34
import Derived.Test.YtfpfgbhdehbggaaGreatDoorQa22
import Derived.Test.YtfpfgbhdehbggaaGreatDoorQa1
import Derived.Test.YtfpfgbhdehbggaaGreatDoorQa2
import Derived.Test.YtfpfgbhdehbggaaGreatDoorQa20
import Derived.Deep.CutRange
namespace Go.Proofs.YtfpfgbhdehbggaaGreatDoor
set_option maxRecDepth 20000
open Go.RowKit Go.BigFrame
def pw3 : Nat → BitVec 8
  | 0 => 1#8
  | i + 1 => mB (pw3 i) 3#8
def p3L : List (BitVec 8) := [1#8, 3#8, 5#8, 15#8, 17#8, 51#8, 85#8, 255#8, 26#8, 46#8, 114#8, 150#8, 161#8, 248#8, 19#8, 53#8, 95#8, 225#8, 56#8, 72#8, 216#8, 115#8, 149#8, 164#8, 247#8, 2#8, 6#8, 10#8, 30#8, 34#8, 102#8, 170#8, 229#8, 52#8, 92#8, 228#8, 55#8, 89#8, 235#8, 38#8, 106#8, 190#8, 217#8, 112#8, 144#8, 171#8, 230#8, 49#8, 83#8, 245#8, 4#8, 12#8, 20#8, 60#8, 68#8, 204#8, 79#8, 209#8, 104#8, 184#8, 211#8, 110#8, 178#8, 205#8, 76#8, 212#8, 103#8, 169#8, 224#8, 59#8, 77#8, 215#8, 98#8, 166#8, 241#8, 8#8, 24#8, 40#8, 120#8, 136#8, 131#8, 158#8, 185#8, 208#8, 107#8, 189#8, 220#8, 127#8, 129#8, 152#8, 179#8, 206#8, 73#8, 219#8, 118#8, 154#8, 181#8, 196#8, 87#8, 249#8, 16#8, 48#8, 80#8, 240#8, 11#8, 29#8, 39#8, 105#8, 187#8, 214#8, 97#8, 163#8, 254#8, 25#8, 43#8, 125#8, 135#8, 146#8, 173#8, 236#8, 47#8, 113#8, 147#8, 174#8, 233#8, 32#8, 96#8, 160#8, 251#8, 22#8, 58#8, 78#8, 210#8, 109#8, 183#8, 194#8, 93#8, 231#8, 50#8, 86#8, 250#8, 21#8, 63#8, 65#8, 195#8, 94#8, 226#8, 61#8, 71#8, 201#8, 64#8, 192#8, 91#8, 237#8, 44#8, 116#8, 156#8, 191#8, 218#8, 117#8, 159#8, 186#8, 213#8, 100#8, 172#8, 239#8, 42#8, 126#8, 130#8, 157#8, 188#8, 223#8, 122#8, 142#8, 137#8, 128#8, 155#8, 182#8, 193#8, 88#8, 232#8, 35#8, 101#8, 175#8, 234#8, 37#8, 111#8, 177#8, 200#8, 67#8, 197#8, 84#8, 252#8, 31#8, 33#8, 99#8, 165#8, 244#8, 7#8, 9#8, 27#8, 45#8, 119#8, 153#8, 176#8, 203#8, 70#8, 202#8, 69#8, 207#8, 74#8, 222#8, 121#8, 139#8, 134#8, 145#8, 168#8, 227#8, 62#8, 66#8, 198#8, 81#8, 243#8, 14#8, 18#8, 54#8, 90#8, 238#8, 41#8, 123#8, 141#8, 140#8, 143#8, 138#8, 133#8, 148#8, 167#8, 242#8, 13#8, 23#8, 57#8, 75#8, 221#8, 124#8, 132#8, 151#8, 162#8, 253#8, 28#8, 36#8, 108#8, 180#8, 199#8, 82#8, 246#8, 1#8]
def lgL : List Nat := [0, 0, 25, 1, 50, 2, 26, 198, 75, 199, 27, 104, 51, 238, 223, 3, 100, 4, 224, 14, 52, 141, 129, 239, 76, 113, 8, 200, 248, 105, 28, 193, 125, 194, 29, 181, 249, 185, 39, 106, 77, 228, 166, 114, 154, 201, 9, 120, 101, 47, 138, 5, 33, 15, 225, 36, 18, 240, 130, 69, 53, 147, 218, 142, 150, 143, 219, 189, 54, 208, 206, 148, 19, 92, 210, 241, 64, 70, 131, 56, 102, 221, 253, 48, 191, 6, 139, 98, 179, 37, 226, 152, 34, 136, 145, 16, 126, 110, 72, 195, 163, 182, 30, 66, 58, 107, 40, 84, 250, 133, 61, 186, 43, 121, 10, 21, 155, 159, 94, 202, 78, 212, 172, 229, 243, 115, 167, 87, 175, 88, 168, 80, 244, 234, 214, 116, 79, 174, 233, 213, 231, 230, 173, 232, 44, 215, 117, 122, 235, 22, 11, 245, 89, 203, 95, 176, 156, 169, 81, 160, 127, 12, 246, 111, 23, 196, 73, 236, 216, 67, 31, 45, 164, 118, 123, 183, 204, 187, 62, 90, 251, 96, 177, 134, 59, 82, 161, 108, 170, 85, 41, 157, 151, 178, 135, 144, 97, 190, 220, 252, 188, 149, 207, 205, 55, 63, 91, 209, 83, 57, 132, 60, 65, 162, 109, 71, 20, 42, 158, 93, 86, 242, 211, 171, 68, 17, 146, 217, 35, 32, 46, 137, 180, 124, 184, 38, 119, 153, 227, 165, 103, 74, 237, 222, 197, 49, 254, 24, 13, 99, 140, 128, 192, 247, 112, 7]
theorem p3_chk : ∀ i, i < 255 → mB (p3L.getD i 0#8) 3#8 = p3L.getD (i + 1) 0#8 := by decide +kernel
theorem p3_at : ∀ i, i < 256 → pw3 i = p3L.getD i 0#8
  | 0, _ => rfl
  | i + 1, h => by
    show mB (pw3 i) 3#8 = _
    rw [p3_at i (by omega)]
    exact p3_chk i (by omega)
theorem lg_chk : ∀ i, i < 255 → lgL.getD (p3L.getD i 0#8).toNat 0 = i := by decide +kernel
theorem lg_lt : ∀ j, j < 256 → j ≠ 0 → lgL.getD j 0 < 255 ∧ (p3L.getD (lgL.getD j 0) 0#8).toNat = j := by decide +kernel
theorem p3_ne : ∀ i, i < 255 → (p3L.getD i 0#8).toNat ≠ 0 := by decide +kernel
theorem p3_box : ∀ i, i < 255 → boxB (p3L.getD i 0#8) = turnB (p3L.getD (255 - i) 0#8) := by decide +kernel
def oK : Nat → Nat → BitVec 8
  | 0, j => if j = 0 then turnB 0#8 else 0#8
  | i + 1, j => if j = (pw3 i).toNat then turnB (pw3 (255 - i)) else oK i j
theorem oK_zero : ∀ n, n ≤ 255 → oK n 0 = turnB 0#8
  | 0, _ => rfl
  | n + 1, h => by
    show (if 0 = (pw3 n).toNat then _ else oK n 0) = _
    rw [if_neg (by rw [p3_at n (by omega)]; exact fun e => p3_ne n (by omega) e.symm)]
    exact oK_zero n (by omega)
theorem oK_hit (i : Nat) (hi : i < 255) : ∀ n, n ≤ 255 → i < n → oK n (pw3 i).toNat = turnB (pw3 (255 - i))
  | 0, _, h => by omega
  | n + 1, hn, h => by
    show (if (pw3 i).toNat = (pw3 n).toNat then _ else oK n (pw3 i).toNat) = _
    by_cases e : i = n
    · subst e
      rw [if_pos rfl]
    · have hne : (pw3 i).toNat ≠ (pw3 n).toNat := fun h2 => e (by
        have h3 := lg_chk i hi
        have h4 := lg_chk n (by omega)
        rw [← p3_at i (by omega), h2, p3_at n (by omega), h4] at h3
        exact h3.symm)
      rw [if_neg hne]
      exact oK_hit i hi n (by omega) (by omega)
theorem oK_end (j : Nat) (hj : j < 256) : oK 255 j = bxT j := by
  by_cases h0 : j = 0
  · subst h0
    rw [oK_zero 255 (Nat.le_refl _)]
    unfold bxT boxB
    rw [show BitVec.ofNat 8 0 = 0#8 from rfl, inv_zero]
  · obtain ⟨h1, h2⟩ := lg_lt j hj h0
    rw [← p3_at _ (by omega)] at h2
    have h3 := oK_hit (lgL.getD j 0) h1 255 (Nat.le_refl _) h1
    rw [h2] at h3
    rw [h3, p3_at (255 - lgL.getD j 0) (by omega), ← p3_box _ h1, ← p3_at _ (by omega)]
    unfold bxT
    rw [show BitVec.ofNat 8 j = pw3 (lgL.getD j 0) from BitVec.eq_of_toNat_eq (by rw [h2]; simp; omega)]
end Go.Proofs.YtfpfgbhdehbggaaGreatDoor
namespace Go.Proofs.YtfpfgbhdehbggaaGreatDoor
set_option maxRecDepth 20000
open Go.RowKit Go.BigFrame
def rmixP (g f : Nat → BitVec 8) (j : Nat) : Nat → BitVec 8
  | 0 => 0#8
  | k + 1 => xB (rmixP g f j k) (mB (g ((k + 4 - j % 4) % 4)) (f (j / 4 * 4 + k)))
def rmixF (g f : Nat → BitVec 8) (j : Nat) : BitVec 8 := rmixP g f j 4
def rmixS (g f : Nat → BitVec 8) (i k j : Nat) : BitVec 8 := if j < i then rmixF g f j else if j = i then rmixP g f j k else 0#8
def RMixAt (B : Nat) (w : World) (g f : Nat → BitVec 8) (i k : Nat) (X : World) : Prop :=
  RowAt B 16 (yv f) X ∧ RowAt (B + 1) 4 (yv g) X ∧ RowAt (B + 1 + 1) 16 (yv fun _ => 0#8) X ∧ RowAt (B + 1 + 1 + 1) 16 (yv (rmixS g f i k)) X ∧ Below B w X
theorem RMixAt.draw {B : Nat} {w X Y : World} {g f : Nat → BitVec 8} {i k : Nat} (h : RMixAt B w g f i k X) (hB : w.heap.size = B) (e : Ext X.drew Y) : RMixAt B w g f i k Y :=
  ⟨h.1.drew.carry e, h.2.1.drew.carry e, h.2.2.1.drew.carry e, h.2.2.2.1.drew.carry e, Below.trans h.2.2.2.2.drew (Below.mono e (by have := Below.size h.2.2.2.2; rw [hB] at this; exact this))⟩
theorem RMixAt.step {B : Nat} {w X : World} {g f : Nat → BitVec 8} {i k : Nat} (h : RMixAt B w g f i k X) : RMixAt B w g f i (k + 1) (X.setCell ⟨B + 1 + 1 + 1, i, none⟩ (.int .u8 ((rmixP g f i (k + 1)).toNat : Int))) := by
  obtain ⟨h1, h2, h3, h4, h5⟩ := h
  refine ⟨h1.other _ _ (by simp; omega), h2.other _ _ (by simp; omega), h3.other _ _ (by simp), (h4.set i _).congr ?_, h5.setCell (by simp; omega) _⟩
  intro j _
  by_cases e : j = i
  · subst e
    simp only [if_true, yv, rmixS, if_neg (Nat.lt_irrefl j)]
  · simp only [if_neg e, yv, rmixS]
theorem RMixAt.next {B : Nat} {w X : World} {g f : Nat → BitVec 8} {i : Nat} (h : RMixAt B w g f i 4 X) : RMixAt B w g f (i + 1) 0 X := by
  refine ⟨h.1, h.2.1, h.2.2.1, h.2.2.2.1.congr fun j _ => ?_, h.2.2.2.2⟩
  simp only [yv, rmixS]
  by_cases e1 : j < i
  · rw [if_pos e1, if_pos (by omega)]
  · by_cases e2 : j = i
    · subst e2
      rw [if_neg e1, if_pos rfl, if_pos (by omega)]
      rfl
    · rw [if_neg e1, if_neg e2, if_neg (by omega)]
      by_cases e3 : j = i + 1
      · rw [if_pos e3]
        rfl
      · rw [if_neg e3]
theorem rmul_below (a b : BitVec 8) (w : World) : Calls Tryz.prog 72 #[.int .u8 (a.toNat : Int), .int .u8 (b.toNat : Int)] w fun e w' => e = .returned (.int .u8 ((mB a b).toNat : Int)) ∧ Below w.heap.size w w' :=
  (rmul_any a b w).mono fun e w' h => ⟨h.1, by rw [h.2]; exact Below.refl _ _⟩
set_option maxRecDepth 20000 in
set_option maxHeartbeats 2000000 in
theorem rmix_any (g f : Nat → BitVec 8) (w : World) :
    Calls Tryz.prog 111 #[.agg (row 16 (yv f)).toArray, .agg (row 4 (yv g)).toArray] w fun e w' => e = .returned (.agg (row 16 (yv (rmixF g f))).toArray) ∧ Below w.heap.size w w' := by
  have hz := store_Y16
  have HS : RMixAt w.heap.size w g f (4 * 0) 0 ((((w.alloc (.cells (row 16 (yv f)).toArray 52)).alloc (.cells (row 4 (yv g)).toArray 129)).alloc (.cells (row 16 (yv fun _ => 0#8)).toArray 52)).alloc (.cells (row 16 (yv fun _ => 0#8)).toArray 52)) := by
    refine ⟨(((RowAt.new w 16 (yv f) 52).alloc _).alloc _).alloc _, ?_, ?_, ?_, ((((Below.refl _ _).alloc (Nat.le_refl _) _).alloc (by simp) _).alloc (by simp; omega) _).alloc (by simp; omega) _⟩
    · have := ((RowAt.new (w.alloc (Obj.cells (row 16 (yv f)).toArray 52)) 4 (yv g) 129).alloc (.cells (row 16 (yv fun _ => 0#8)).toArray 52)).alloc (.cells (row 16 (yv fun _ => 0#8)).toArray 52)
      simpa using this
    · have := (RowAt.new ((w.alloc (Obj.cells (row 16 (yv f)).toArray 52)).alloc (Obj.cells (row 4 (yv g)).toArray 129)) 16 (yv fun _ => 0#8) 52).alloc (.cells (row 16 (yv fun _ => 0#8)).toArray 52)
      simpa using this
    · have := RowAt.new (((w.alloc (Obj.cells (row 16 (yv f)).toArray 52)).alloc (Obj.cells (row 4 (yv g)).toArray 129)).alloc (.cells (row 16 (yv fun _ => 0#8)).toArray 52)) 16 (yv fun _ => 0#8) 52
      have h2 := this.congr (g' := yv (rmixS g f (4 * 0) 0)) (fun j _ => by
        simp only [yv, rmixS]
        rw [if_neg (by omega)]
        by_cases e : j = 4 * 0
        · rw [if_pos e]; rfl
        · rw [if_neg e])
      simpa using h2
  replace HS := hideit HS
  go_enter Tryz.func111, Tryz.ntmps111
  go_wp2
  go_loopw [6] (fun i wr => ∃ n : Nat, n ≤ 4 ∧ i = .int .i64 n ∧ RMixAt w.heap.size w g f (4 * n) 0 wr) (fun i _ => 4 - (intOf i).toNat)
  case atStart => exact ⟨0, by omega, rfl, HS.out⟩
  case round =>
    obtain ⟨n, hn, rfl, hT⟩ := hrel
    have HT := hideit hT
    clear hT HS
    by_cases hlt : n < 4
    · have i1 : (n : Int) < 4 := by omega
      go_wp2
      go_loopw [7] (fun i wr => ∃ m : Nat, m ≤ 4 ∧ i = .int .i64 m ∧ RMixAt w.heap.size w g f (4 * n + m) 0 wr) (fun i _ => 4 - (intOf i).toNat)
      case atStart => exact ⟨0, by omega, rfl, HT.out⟩
      case round =>
        obtain ⟨m, hm, rfl, hT⟩ := hrel
        have HV := hideit hT
        clear hT HT
        by_cases hlt4 : m < 4
        · have m1 : (m : Int) < 4 := by omega
          go_wp2
          go_loopw [8] (fun i wr => ∃ k : Nat, k ≤ 4 ∧ i = .int .i64 k ∧ RMixAt w.heap.size w g f (4 * n + m) k wr) (fun i _ => 4 - (intOf i).toNat)
          case atStart => exact ⟨0, by omega, rfl, HV.out⟩
          case round =>
            obtain ⟨k, hk, rfl, hT⟩ := hrel
            have HU := hideit hT
            clear hT HV
            by_cases hlk : k < 4
            · have k1 : (k : Int) < 4 := by omega
              obtain ⟨z, hz0⟩ : ∃ z : Nat, z = (k + 4 - m) % 4 := ⟨_, rfl⟩
              have hz4 : z < 4 := by omega
              have hzi : (z : Int) < 4 := by omega
              have ht : ((k : Int) + 4 - (m : Int)).tmod 4 = (z : Int) := by
                rw [Int.tmod_eq_emod_of_nonneg (by omega), hz0]
                omega
              obtain ⟨x, hx⟩ : ∃ x, x = rmixP g f (4 * n + m) k := ⟨_, rfl⟩
              obtain ⟨a, ha⟩ : ∃ a, a = g z := ⟨_, rfl⟩
              obtain ⟨b, hb⟩ : ∃ b, b = f (4 * n + k) := ⟨_, rfl⟩
              have hstep : rmixP g f (4 * n + m) (k + 1) = xB x (mB a b) := by
                rw [hx, ha, hb, hz0]
                show xB _ (mB (g ((k + 4 - (4 * n + m) % 4) % 4)) (f ((4 * n + m) / 4 * 4 + k))) = _
                rw [show (4 * n + m) % 4 = m by omega, show (4 * n + m) / 4 * 4 = 4 * n by omega]
              have e1 : ∀ q : Kept (Ext wr.drew), q.w.cell? ⟨w.heap.size + 1 + 1 + 1, 4 * n + m, none⟩ = some (.int .u8 (x.toNat : Int)) := fun q => by
                rw [(HU.out.2.2.2.1.drew.carry q.ok).1 (4 * n + m) (by omega)]
                simp only [yv, rmixS, if_neg (Nat.lt_irrefl _), if_true, hx]
              have e2 : ∀ q : Kept (Ext wr.drew), q.w.cell? ⟨w.heap.size + 1, z, none⟩ = some (.int .u8 (a.toNat : Int)) := fun q => by
                rw [(HU.out.2.1.drew.carry q.ok).1 z hz4, ha]
                rfl
              have e3 : ∀ q : Kept (Ext wr.drew), q.w.cell? ⟨w.heap.size, 4 * n + k, none⟩ = some (.int .u8 (b.toNat : Int)) := fun q => by
                rw [(HU.out.1.drew.carry q.ok).1 (4 * n + k) (by omega), hb]
                rfl
              have o1 : bits .xor .u8 (x.toNat : Int) ((mB a b).toNat : Int) = ((xB x (mB a b)).toNat : Int) := xB_fact _ _
              replace hx := hideit hx
              replace ha := hideit ha
              replace hb := hideit hb
              replace hz0 := hideit hz0
              replace hstep := hideit hstep
              go_upto_region 11 with fail
              have hne := kept_ne (wr).drew
              refine wp_region_late 26 (by kernel_rfl) (by kernel_rfl) (by decide) ?_
              simp only [List.take_succ_cons, List.take_zero, List.drop_succ_cons, List.drop_zero]
              refine wpStrong_run 23 rfl ?_
              simp only [List.take_succ_cons, List.take_zero, List.drop_succ_cons, List.drop_zero]
              repeat (go_big_quiet_step (fail))
              refine wpQuiet_nil ?_
              refine wpStrong_call rfl (fun X => by simp [go_sem]) (fun X hX => rmul_below a b X) ?_
              simp only [zp0, zp1, zp2, zp3]
              refine wpStrong_run 2 rfl ?_
              simp only [List.take_succ_cons, List.take_zero, List.drop_succ_cons, List.drop_zero]
              repeat (go_big_quiet_step (fail))
              refine wpQuiet_nil ?_
              refine wpStrong_nil ?_
              intro X hX
              have HX := hideit (RMixAt.draw HU.out rfl hX)
              clear hX e1 e2 e3
              have e4 := HX.out.2.2.2.1.1 (4 * n + m) (by omega)
              have g4 := HX.out.2.2.2.1.2.1 (4 * n + m) (by omega)
              have HI : RMixAt w.heap.size w g f (4 * n + m) (k + 1) (X.setCell ⟨w.heap.size + 1 + 1 + 1, 4 * n + m, none⟩ (.int .u8 ((xB x (mB a b)).toNat : Int))) := by
                have h1 := HX.out.step
                rw [hstep.out] at h1
                exact h1
              replace HI := hideit HI
              go_wp2
              go_roundw
              case rel =>
                first | exact ⟨(k + 1 : Nat), by omega, by go_num, HI.out⟩ | ((repeat apply Exists.intro); exact ⟨⟨k + 1, by omega, by go_num, HI.out⟩, rfl⟩)
              case measure => simp [intOf]; omega
            · obtain rfl : k = 4 := by omega
              go_wp2
              go_roundw
              case rel =>
                first | exact ⟨(m + 1 : Nat), by omega, by go_num, HU.out.next⟩ | ((repeat apply Exists.intro); exact ⟨⟨m + 1, by omega, by go_num, HU.out.next⟩, rfl⟩)
              case measure => simp [intOf]; omega
        · obtain rfl : m = 4 := by omega
          go_wp2
          go_roundw
          case rel =>
            have HI : RMixAt w.heap.size w g f (4 * (n + 1)) 0 wr := HV.out
            first | exact ⟨(n + 1 : Nat), by omega, by go_num, HI⟩ | ((repeat apply Exists.intro); exact ⟨⟨n + 1, by omega, by go_num, HI⟩, rfl⟩)
          case measure => simp [intOf]; omega
    · obtain rfl : n = 4 := by omega
      have HR := hideit (HT.out.2.2.2.1.congr (g' := yv (rmixF g f)) (fun j hj => by simp only [yv, rmixS]; rw [if_pos (by omega)]))
      have HR0 := hideit HT.out.2.2.1
      have HB := hideit HT.out.2.2.2.2
      clear HT
      go_wp2_with (first | (refine wpList_load_mid rfl 52 (.tmp 5) rfl _ 0 rfl (row 16 (yv (rmixF g f))) _ HR.out.range Tryz.underlying52 rfl (by rw [row_length]; exact info32) ?_) | (refine wpList_store_mid rfl 52 (.tmp 4) (.tmp 47) rfl _ 0 (row 16 (yv (rmixF g f))).toArray rfl rfl (by rw [row_size]; exact HR0.out.there) (by rw [row_size]; exact info32) (row_one fun _ _ => rfl) ?_))
      exact bodyPost_ret (ret_row Tryz.results111 rfl (HR0.out.cells (g' := yv (rmixF g f))) Tryz.underlying52 rfl info32) rfl ⟨rfl, below_setCells _ (by omega) _ _ _ HB.out⟩
end Go.Proofs.YtfpfgbhdehbggaaGreatDoor
namespace Go.Proofs.YtfpfgbhdehbggaaGreatDoor
set_option maxRecDepth 20000
open Go.RowKit Go.BigFrame
theorem zero45 (w : World) : Sem.run Tryz.prog (zeroValue 109) w = .ok (.agg (row 256 (yv fun _ => 0#8)).toArray) w := by kernel_rfl
theorem info45 : (Tryz.prog.info? 109).map (·.size) = some 256 := by kernel_rfl
theorem rturn_below (a : BitVec 8) (w : World) : Calls Tryz.prog 91 #[.int .u8 (a.toNat : Int)] w fun e w' => e = .returned (.int .u8 ((turnB a).toNat : Int)) ∧ Below w.heap.size w w' :=
  (rturn_any a w).mono fun e w' h => ⟨h.1, by rw [h.2]; exact Below.refl _ _⟩
def powP (n j : Nat) : BitVec 8 := if j < n then pw3 j else 0#8
def PowAt (B : Nat) (w : World) (n : Nat) (X : World) : Prop := RowAt B 256 (yv fun _ => 0#8) X ∧ RowAt (B + 1) 256 (yv (powP n)) X ∧ Below B w X
theorem PowAt.step {B : Nat} {w X : World} {n : Nat} (h : PowAt B w n X) : PowAt B w (n + 1) (X.setCell ⟨B + 1, n, none⟩ (.int .u8 ((pw3 n).toNat : Int))) := by
  refine ⟨h.1.other _ _ (by simp), (h.2.1.set n _).congr fun j _ => ?_, h.2.2.setCell (by simp) _⟩
  by_cases e : j = n
  · subst e
    simp only [if_true, yv, powP, if_pos (Nat.lt_succ_self j)]
  · simp only [if_neg e, yv, powP, show (j < n + 1) ↔ (j < n) by omega]
def OutAt (B d : Nat) (w : World) (n : Nat) (X : World) : Prop := RowAt B 256 (yv fun _ => 0#8) X ∧ RowAt (B + 1) 256 (yv pw3) X ∧ RowAt d 256 (yv (oK n)) X ∧ Below B w X
theorem OutAt.draw {B d : Nat} {w X Y : World} {n : Nat} (h : OutAt B d w n X) (hB : w.heap.size = B) (e : Ext X.drew Y) : OutAt B d w n Y :=
  ⟨h.1.drew.carry e, h.2.1.drew.carry e, h.2.2.1.drew.carry e, Below.trans h.2.2.2.drew (Below.mono e (by have := Below.size h.2.2.2; rw [hB] at this; exact this))⟩
theorem OutAt.step {B d : Nat} {w X : World} {n : Nat} (hd : B + 2 ≤ d) (h : OutAt B d w n X) : OutAt B d w (n + 1) (X.setCell ⟨d, (pw3 n).toNat, none⟩ (.int .u8 ((turnB (pw3 (255 - n))).toNat : Int))) := by
  refine ⟨h.1.other _ _ (by show d ≠ B; omega), h.2.1.other _ _ (by show d ≠ B + 1; omega), (h.2.2.1.set _ _).congr fun j _ => ?_, h.2.2.2.setCell (by show B ≤ d; omega) _⟩
  simp only [yv, oK]
  by_cases e : j = (pw3 n).toNat
  · rw [if_pos e, if_pos e]
  · rw [if_neg e, if_neg e]
set_option maxRecDepth 20000 in
set_option maxHeartbeats 2000000 in
theorem rboxes_any (w : World) : Calls Tryz.prog 71 #[] w fun e w' => e = .returned (.agg (row 256 (yv bxT)).toArray) ∧ Below w.heap.size w w' := by
  have hz := zero45
  have HS : PowAt w.heap.size w (0 + 1) ((w.alloc (.cells (row 256 (yv fun _ => 0#8)).toArray 109)).alloc (.cells ((row 256 (yv fun _ => 0#8)).set 0 (.int .u8 1)).toArray 109)) := by
    refine ⟨(RowAt.new w 256 (yv fun _ => 0#8) 109).alloc _, ?_, ((Below.refl _ _).alloc (Nat.le_refl _) _).alloc (by simp) _⟩
    have := RowAt.newOf (w.alloc (.cells (row 256 (yv fun _ => 0#8)).toArray 109)) 256 (yv (powP 1)) 109 ((row 256 (yv fun _ => 0#8)).set 0 (.int .u8 1)).toArray (fun j hj => by
      rw [List.getElem?_toArray, List.getElem?_set]
      by_cases e : 0 = j
      · subst e
        rw [if_pos rfl, if_pos (by rw [row_length]; omega)]
        rfl
      · rw [if_neg e, row_get 256 _ j hj]
        simp only [yv, powP]
        rw [if_neg (by omega)])
    simpa using this
  replace HS := hideit HS
  go_enter Tryz.func71, Tryz.ntmps71
  go_wp2
  go_loopw [2] (fun i wr => ∃ n : Nat, n < 256 ∧ i = .int .i64 ((n : Int) + 1) ∧ PowAt w.heap.size w (n + 1) wr) (fun i _ => 256 - (intOf i).toNat)
  case atStart => exact ⟨0, by omega, rfl, HS.out⟩
  case round =>
    obtain ⟨n, hn, rfl, hT⟩ := hrel
    have HT := hideit hT
    clear hT HS
    by_cases hlt : n < 255
    · have i1 : (n : Int) < 255 := by omega
      obtain ⟨x, hx⟩ : ∃ x, x = pw3 n := ⟨_, rfl⟩
      have hxs : pw3 (n + 1) = mB x 3#8 := by rw [hx]; rfl
      have e1 : wr.cell? ⟨w.heap.size + 1, n, none⟩ = some (.int .u8 (x.toNat : Int)) := by
        rw [HT.out.2.1.1 n (by omega), hx]
        simp only [yv, powP, if_pos (Nat.lt_succ_self n)]
      have e1' : wr.cell? ⟨w.heap.size + 1, n + 1 - 1, none⟩ = some (.int .u8 (x.toNat : Int)) := e1
      have e2 := HT.out.2.1.1 (n + 1) (by omega)
      have g2 := HT.out.2.1.2.1 (n + 1) (by omega)
      have HI : PowAt w.heap.size w (n + 1 + 1) (wr.setCell ⟨w.heap.size + 1, n + 1, none⟩ (.int .u8 ((mB x 3#8).toNat : Int))) := by
        rw [← hxs]
        exact HT.out.step
      replace HI := hideit HI
      replace hx := hideit hx
      replace hxs := hideit hxs
      go_wp2_with (go_at_call 72; refine (rmul_any x 3#8 _).mono ?_; rintro e w2 ⟨rfl, h2⟩; rw [h2])
      go_roundw
      case rel =>
        first | exact ⟨(n + 1 : Nat), by omega, by go_num, HI.out⟩ | ((repeat apply Exists.intro); exact ⟨⟨n + 1, by omega, by go_num, HI.out⟩, rfl⟩)
      case measure => simp [intOf]; omega
    · obtain rfl : n = 255 := by omega
      have HP := hideit (HT.out.2.1.congr (g' := yv pw3) (fun j hj => by simp only [yv, powP]; rw [if_pos (by omega)]))
      have hsz : w.heap.size + 1 < wr.heap.size := HT.out.2.1.2.2
      obtain ⟨d, hd⟩ : ∃ d, d = wr.heap.size := ⟨_, rfl⟩
      have hd2 : w.heap.size + 2 ≤ d := by omega
      obtain ⟨t0, ht0⟩ : ∃ t, t = turnB 0#8 := ⟨_, rfl⟩
      have HO : OutAt w.heap.size d w 0 (wr.alloc (.cells ((row 256 (yv fun _ => 0#8)).set 0 (.int .u8 (t0.toNat : Int))).toArray 109)) := by
        refine ⟨HT.out.1.alloc _, HP.out.alloc _, ?_, HT.out.2.2.alloc (by omega) _⟩
        rw [hd]
        exact RowAt.newOf wr 256 (yv (oK 0)) 109 _ (fun j hj => by
          rw [List.getElem?_toArray, List.getElem?_set]
          by_cases e : 0 = j
          · subst e
            rw [if_pos rfl, if_pos (by rw [row_length]; omega), ht0]
            rfl
          · rw [if_neg e, row_get 256 _ j hj]
            simp only [yv, oK]
            rw [if_neg (Ne.symm e)])
      replace HO := hideit HO
      replace ht0 := hideit ht0
      clear HT HP
      go_upto_region 9 with (go_at_call 91; refine (rturn_any 0#8 _).mono ?_; rw [← ht0.out]; rintro e w2 ⟨rfl, h2⟩; rw [h2])
      rw [← hd]
      clear hd
      generalize wr.alloc (.cells ((row 256 (yv fun _ => 0#8)).set 0 (.int .u8 (t0.toNat : Int))).toArray 109) = Y at *
      go_wp2
      go_loopw [4] (fun i wr => ∃ n : Nat, n ≤ 255 ∧ i = .int .i64 n ∧ OutAt w.heap.size d w n wr) (fun i _ => 255 - (intOf i).toNat)
      case atStart => exact ⟨0, by omega, rfl, HO.out⟩
      case round =>
        obtain ⟨n, hn, rfl, hT⟩ := hrel
        have HT := hideit hT
        clear hT HO
        by_cases hlt : n < 255
        · have n0 : (0 : Int) ≤ (n : Int) := by omega
          have n1 : (n : Int) < 255 := by omega
          obtain ⟨x, hx⟩ : ∃ x, x = pw3 n := ⟨_, rfl⟩
          obtain ⟨y, hy⟩ : ∃ y, y = pw3 (255 - n) := ⟨_, rfl⟩
          have hxl := x.isLt
          have hxi : (x.toNat : Int) < 256 := by omega
          have e1 : ∀ q : Kept (Ext wr.drew), q.w.cell? ⟨w.heap.size + 1, n, none⟩ = some (.int .u8 (x.toNat : Int)) := fun q => by
            rw [(HT.out.2.1.drew.carry q.ok).1 n (by omega), hx]
            rfl
          have e2 : ∀ q : Kept (Ext wr.drew), q.w.cell? ⟨w.heap.size + 1, 255 - n, none⟩ = some (.int .u8 (y.toNat : Int)) := fun q => by
            rw [(HT.out.2.1.drew.carry q.ok).1 (255 - n) (by omega), hy]
            rfl
          have HST : ∀ X, OutAt w.heap.size d w n X → OutAt w.heap.size d w (n + 1) (X.setCell ⟨d, x.toNat, none⟩ (.int .u8 ((turnB y).toNat : Int))) := fun X h => by
            rw [hx, hy]
            exact h.step hd2
          replace hx := hideit hx
          replace hy := hideit hy
          replace HST := hideit HST
          go_upto_region 12 with fail
          have hne := kept_ne (wr).drew
          refine wp_region_late 9 (by kernel_rfl) (by kernel_rfl) (by decide) ?_
          simp only [List.take_succ_cons, List.take_zero, List.drop_succ_cons, List.drop_zero]
          refine wpStrong_run 7 rfl ?_
          simp only [List.take_succ_cons, List.take_zero, List.drop_succ_cons, List.drop_zero]
          repeat (go_big_quiet_step (fail))
          refine wpQuiet_nil ?_
          refine wpStrong_call rfl (fun X => by simp [go_sem]) (fun X hX => rturn_below y X) ?_
          simp only [zp0, zp1, zp2, zp3]
          refine wpStrong_run 1 rfl ?_
          simp only [List.take_succ_cons, List.take_zero, List.drop_succ_cons, List.drop_zero]
          repeat (go_big_quiet_step (fail))
          refine wpQuiet_nil ?_
          refine wpStrong_nil ?_
          intro X hX
          have HX := hideit (OutAt.draw HT.out rfl hX)
          clear hX e1 e2
          have e4 := HX.out.2.2.1.1 x.toNat hxl
          have g4 := HX.out.2.2.1.2.1 x.toNat hxl
          have HI := hideit (HST.out X HX.out)
          go_wp2
          go_roundw
          case rel =>
            first | exact ⟨(n + 1 : Nat), by omega, by go_num, HI.out⟩ | ((repeat apply Exists.intro); exact ⟨⟨n + 1, by omega, by go_num, HI.out⟩, rfl⟩)
          case measure => simp [intOf]; omega
        · obtain rfl : n = 255 := by omega
          have HR := hideit (HT.out.2.2.1.congr (g' := yv bxT) (fun j hj => by simp only [yv]; rw [oK_end j hj]))
          have HR0 := hideit HT.out.1
          have HB := hideit HT.out.2.2.2
          clear HT
          go_wp2_with (first | (refine wpList_load_mid rfl 109 (.tmp 3) rfl _ 0 rfl (row 256 (yv bxT)) _ HR.out.range Tryz.underlying109 rfl (by rw [row_length]; exact info45) ?_) | (refine wpList_store_mid rfl 109 (.tmp 0) (.tmp 32) rfl _ 0 (row 256 (yv bxT)).toArray rfl rfl (by rw [row_size]; exact HR0.out.there) (by rw [row_size]; exact info45) (row_one fun _ _ => rfl) ?_))
          exact bodyPost_ret (ret_row Tryz.results71 rfl (HR0.out.cells (g' := yv bxT)) Tryz.underlying109 rfl info45) rfl ⟨rfl, below_setCells _ (Nat.le_refl _) _ _ _ HB.out⟩
end Go.Proofs.YtfpfgbhdehbggaaGreatDoor
