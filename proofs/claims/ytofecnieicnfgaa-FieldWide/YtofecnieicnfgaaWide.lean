/-
  The law FieldWide, walked: it answers true for every three tweaks.
-/
import Derived.Test.YtofecnieicnfgaaTimes
import Derived.Deep.RegionHeld3
import Derived.Deep.DeepCutAuto
import Derived.Deep.DrawnRows
import Derived.Deep.Light
import Derived.BigQuiet
namespace Go.Proofs.Ytofecnieicnfgaa
open Go.RowKit
attribute [local go_sem ↓] Go.wp_at_zero Go.wp_at_succ
/-- a block that holds a tweak -/
def Lies (b : Nat) (x : BitVec 128) (wr : World) : Prop :=
  wr.cell? ⟨b, 0, none⟩ = some (.int .u64 ((lo x).toNat : Int)) ∧ wr.cell? ⟨b, 1, none⟩ = some (.int .u64 ((hi x).toNat : Int)) ∧ b < wr.heap.size
theorem Lies.carry {b : Nat} {x : BitVec 128} {X w' : World} (h : Lies b x X) (hB : Below X.heap.size X w') : Lies b x w' :=
  ⟨(hB.cell (p := ⟨b, 0, none⟩) h.2.2).trans h.1, (hB.cell (p := ⟨b, 1, none⟩) h.2.2).trans h.2.1, Nat.lt_of_lt_of_le h.2.2 hB.size⟩
theorem below_step {B0 B : Nat} {w X w' : World} (hb : Below B0 X w') (hB : B ≤ B0) (h : Below B w X) : Below B w w' := h.trans (hb.mono hB)

structure Kept (Ok : World → Prop) where
  w : World
  ok : Ok w
theorem wp_region_kept {P : Program} {id : Nat} {Q : Exit → Act → World → Prop} {a : Act} {w : World} {l : List Oper} {Ok : World → Prop} (hm : P.follows .mixedOrders = true) (hB : Region.lexB .any l.toArray = true) (h0 : Ok w.drew)
    (h : wpQuiet P l.toArray (fun w' => ∃ k : Kept Ok, w' = k.w) (fun a' => ∀ w', (∃ k : Kept Ok, w' = k.w) → Q .normal a' w') l a) : (Code.region id l.toArray true).wp P Q a w :=
  wp_region_quiet (C := fun w' => ∃ k : Kept Ok, w' = k.w) hm hB ⟨⟨_, h0⟩, rfl⟩ (by simpa using h)
def WideOk (w : World) (a b c : BitVec 128) (m n : Nat) (u : World) : Prop :=
  Lies m (tT a b) u ∧ Lies n (tT a c) u ∧ Lies w.heap.size a u ∧ Lies (w.heap.size + 1) b u ∧ Lies (w.heap.size + 1 + 1) c u ∧ Lies (w.heap.size + 1 + 1 + 1) (xT b c) u ∧ Below w.heap.size w u
theorem kept_carry {w : World} {a b c : BitVec 128} {m n : Nat} {X u : World} (h : WideOk w a b c m n X) (hb : Below X.heap.size X u) : WideOk w a b c m n u :=
  ⟨h.1.carry hb, h.2.1.carry hb, h.2.2.1.carry hb, h.2.2.2.1.carry hb, h.2.2.2.2.1.carry hb, h.2.2.2.2.2.1.carry hb, h.2.2.2.2.2.2.trans (hb.mono (Nat.le_of_lt h.2.2.1.2.2))⟩
theorem tT_comm (a b : BitVec 128) : tT a b = tT b a := tK_comm _ _ _
theorem tT_assoc (a b c : BitVec 128) : tT (tT a b) c = tT a (tT b c) := tK_assoc _ _ _ _
theorem tT_add (a b c : BitVec 128) : tT a (xT b c) = xT (tT a b) (tT a c) := tK_add_right _ _ _ _ _
theorem tT_one (a : BitVec 128) : tT a 1#128 = a := tK_unit _ _
theorem tT_two (a : BitVec 128) : tT a 2#128 = dX 135#128 a := by
  have h : (2#128) = BitVec.twoPow 128 1 := by decide +kernel
  unfold tT
  rw [h, tK_twoPow _ _ _ _ (by decide)]
  rfl
theorem times_as {x y z : BitVec 128} (h : tT x y = z) (w : World) :
    Calls Try.prog 19 #[.agg #[.int .u64 ((lo x).toNat : Int), .int .u64 ((hi x).toNat : Int)], .agg #[.int .u64 ((lo y).toNat : Int), .int .u64 ((hi y).toNat : Int)]] w fun e w' => e = .returned (.agg #[.int .u64 ((lo z).toNat : Int), .int .u64 ((hi z).toNat : Int)]) ∧ Below w.heap.size w w' := by
  subst h; exact times_any x y w
theorem times_two (a : BitVec 128) (w : World) :
    Calls Try.prog 19 #[.agg #[.int .u64 ((lo a).toNat : Int), .int .u64 ((hi a).toNat : Int)], .agg #[.int .u64 2, .int .u64 0]] w fun e w' => e = .returned (.agg #[.int .u64 ((lo (dX 135#128 a)).toNat : Int), .int .u64 ((hi (dX 135#128 a)).toNat : Int)]) ∧ Below w.heap.size w w' :=
  times_as (y := 2#128) (tT_two a) w
theorem times_one (a : BitVec 128) (w : World) :
    Calls Try.prog 19 #[.agg #[.int .u64 ((lo a).toNat : Int), .int .u64 ((hi a).toNat : Int)], .agg #[.int .u64 1, .int .u64 0]] w fun e w' => e = .returned (.agg #[.int .u64 ((lo a).toNat : Int), .int .u64 ((hi a).toNat : Int)]) ∧ Below w.heap.size w w' :=
  times_as (y := 1#128) (tT_one a) w
set_option maxHeartbeats 4000000 in
theorem wide_walk (a b c : BitVec 128) (w : World) :
    Calls Try.prog 6 #[.agg #[.int .u64 ((lo a).toNat : Int), .int .u64 ((hi a).toNat : Int)], .agg #[.int .u64 ((lo b).toNat : Int), .int .u64 ((hi b).toNat : Int)], .agg #[.int .u64 ((lo c).toNat : Int), .int .u64 ((hi c).toNat : Int)]] w fun e w' => e = .returned (.bool true) ∧ Below w.heap.size w w' := by
  have hx1 := lo_xT b c
  have hx2 := hi_xT b c
  go_enter Try.func6, Try.ntmps6
  go_wp2
  go_cut [8, 9] (fun p q wc => ∃ m n, p = .pointer (some ⟨m, 0, none⟩) ∧ q = .pointer (some ⟨n, 0, none⟩) ∧ Lies m (tT a b) wc ∧ Lies n (tT a c) wc ∧ Lies w.heap.size a wc ∧ Lies (w.heap.size + 1) b wc ∧ Lies (w.heap.size + 1 + 1) c wc ∧ Lies (w.heap.size + 1 + 1 + 1) (xT b c) wc ∧ Below w.heap.size w wc)
  case first =>
    generalize hw : (((w.alloc (Obj.cells #[Value.int IntKind.u64 ↑(lo a).toNat, Value.int IntKind.u64 ↑(hi a).toNat] 28)).alloc
                (Obj.cells #[Value.int IntKind.u64 ↑(lo b).toNat, Value.int IntKind.u64 ↑(hi b).toNat] 28)).alloc
            (Obj.cells #[Value.int IntKind.u64 ↑(lo c).toNat, Value.int IntKind.u64 ↑(hi c).toNat] 28)).alloc
        (Obj.cells #[Value.int IntKind.u64 ↑(lo (xT b c)).toNat, Value.int IntKind.u64 ↑(hi (xT b c)).toNat] 28) = W
    have HW : Hid (Lies w.heap.size a W ∧ Lies (w.heap.size + 1) b W ∧ Lies (w.heap.size + 1 + 1) c W ∧ Lies (w.heap.size + 1 + 1 + 1) (xT b c) W ∧ Below w.heap.size w W ∧ w.heap.size + 4 ≤ W.heap.size) := by
      subst hw
      refine ⟨⟨?_, ?_, ?_⟩, ⟨?_, ?_, ?_⟩, ⟨?_, ?_, ?_⟩, ⟨?_, ?_, ?_⟩, ?_, ?_⟩
      case refine_13 => exact (((((Below.refl _ _).alloc (Nat.le_refl _) _).alloc (by simp) _).alloc (by simp; omega) _).alloc (by simp; omega) _)
      all_goals first | (simp [go_sem]; done) | (simp; omega)
    clear hw
    obtain ⟨⟨a1, a2, _⟩, ⟨b1, b2, _⟩, ⟨c1, c2, _⟩, ⟨d1, d2, _⟩, hBW, hz⟩ := HW.out
    have nw00 : W.heap.size ≠ w.heap.size := (by omega)
    have nw01 : W.heap.size + 1 ≠ w.heap.size := (by omega)
    have nw10 : W.heap.size ≠ w.heap.size + 1 := (by omega)
    have nw11 : W.heap.size + 1 ≠ w.heap.size + 1 := (by omega)
    have nw20 : W.heap.size ≠ w.heap.size + 1 + 1 := (by omega)
    have nw21 : W.heap.size + 1 ≠ w.heap.size + 1 + 1 := (by omega)
    have nw30 : W.heap.size ≠ w.heap.size + 1 + 1 + 1 := (by omega)
    have nw31 : W.heap.size + 1 ≠ w.heap.size + 1 + 1 + 1 := (by omega)
    go_region_held3 (fun w' => w'.cell? ⟨w.heap.size, 0, none⟩ = some (.int .u64 ((lo a).toNat : Int)) ∧ w'.cell? ⟨w.heap.size, 1, none⟩ = some (.int .u64 ((hi a).toNat : Int)) ∧ w'.cell? ⟨w.heap.size + 1, 0, none⟩ = some (.int .u64 ((lo b).toNat : Int)) ∧ w'.cell? ⟨w.heap.size + 1, 1, none⟩ = some (.int .u64 ((hi b).toNat : Int)) ∧ w'.cell? ⟨w.heap.size + 1 + 1, 0, none⟩ = some (.int .u64 ((lo c).toNat : Int)) ∧ w'.cell? ⟨w.heap.size + 1 + 1, 1, none⟩ = some (.int .u64 ((hi c).toNat : Int)) ∧ w'.cell? ⟨w.heap.size + 1 + 1 + 1, 0, none⟩ = some (.int .u64 ((lo (xT b c)).toNat : Int)) ∧ w'.cell? ⟨w.heap.size + 1 + 1 + 1, 1, none⟩ = some (.int .u64 ((hi (xT b c)).toNat : Int)))
      (go_keep)
      (first | (go_at_call 19; refine (times_any _ _ _).mono ?_; rintro e w' ⟨rfl, hb⟩; have hs := hb.size; (try simp at hs); (try have hl := Nat.lt_of_succ_le hs); (try have hl2 := Nat.lt_of_succ_lt hl); (try have hs1 : W.heap.size < w'.heap.size := by omega); (try have hs2 : W.heap.size + 1 < w'.heap.size := by omega); obtain ⟨hc, hf⟩ := bcell hb; have ne00 : w'.heap.size ≠ w.heap.size := (by omega); have ne01 : w'.heap.size + 1 ≠ w.heap.size := (by omega); have ne10 : w'.heap.size ≠ w.heap.size + 1 := (by omega); have ne11 : w'.heap.size + 1 ≠ w.heap.size + 1 := (by omega); have ne20 : w'.heap.size ≠ w.heap.size + 1 + 1 := (by omega); have ne21 : w'.heap.size + 1 ≠ w.heap.size + 1 + 1 := (by omega); have ne30 : w'.heap.size ≠ w.heap.size + 1 + 1 + 1 := (by omega); have ne31 : w'.heap.size + 1 ≠ w.heap.size + 1 + 1 + 1 := (by omega); have q0 := fun o => hb.cell (p := ⟨w.heap.size, o, none⟩) (by simp <;> omega); have q1 := fun o => hb.cell (p := ⟨w.heap.size + 1, o, none⟩) (by simp <;> omega); have q2 := fun o => hb.cell (p := ⟨w.heap.size + 1 + 1, o, none⟩) (by simp <;> omega); have q3 := fun o => hb.cell (p := ⟨w.heap.size + 1 + 1 + 1, o, none⟩) (by simp <;> omega)))
    all_goals (go_wp2_with fail; go_meet)
    all_goals go_light
    all_goals
      refine ⟨_, _, rfl, rfl, ⟨?_, ?_, ?_⟩, ⟨?_, ?_, ?_⟩, ⟨?_, ?_, ?_⟩, ⟨?_, ?_, ?_⟩, ⟨?_, ?_, ?_⟩, ⟨?_, ?_, ?_⟩, ?_⟩
      all_goals first | (simp [go_sem, *, World.cell?_setCell_far, World.cell?_alloc_some]; done) | (simp [go_sem, *, World.cell?_setCell_far]; refine World.cell?_setCell_same' _ _ _ ?_; simp [go_sem, *]; done) | (refine World.cell?_setCell_same' _ _ _ ?_; simp [go_sem, *, World.cell?_setCell_far]; done) | ((try simp) <;> omega) | skip
      all_goals first | (repeat (first | exact hBW | refine Below.setCell ?_ (by (try simp) <;> omega) _ | refine Below.alloc ?_ (by (try simp) <;> omega) _ | refine Below.drew ?_ | (apply below_step; assumption; ((try simp) <;> omega)))) | skip
  case rest =>
    obtain ⟨m, n, rfl, rfl, hok⟩ := hcut
    have hok' : WideOk w a b c m n wc.drew := kept_carry (X := wc) hok ((Below.refl _ _).drew)
    have HO := hideit hok'
    clear hok hok'
    have hne : Nonempty (Kept (WideOk w a b c m n)) := ⟨⟨_, HO.out⟩⟩
    have r00 : ∀ k : Kept (WideOk w a b c m n), k.w.cell? ⟨m, 0, none⟩ = some (.int .u64 ((lo (tT a b)).toNat : Int)) := fun k => k.ok.1.1
    have r01 : ∀ k : Kept (WideOk w a b c m n), k.w.cell? ⟨m, 1, none⟩ = some (.int .u64 ((hi (tT a b)).toNat : Int)) := fun k => k.ok.1.2.1
    have r10 : ∀ k : Kept (WideOk w a b c m n), k.w.cell? ⟨n, 0, none⟩ = some (.int .u64 ((lo (tT a c)).toNat : Int)) := fun k => k.ok.2.1.1
    have r11 : ∀ k : Kept (WideOk w a b c m n), k.w.cell? ⟨n, 1, none⟩ = some (.int .u64 ((hi (tT a c)).toNat : Int)) := fun k => k.ok.2.1.2.1
    have r20 : ∀ k : Kept (WideOk w a b c m n), k.w.cell? ⟨w.heap.size, 0, none⟩ = some (.int .u64 ((lo a).toNat : Int)) := fun k => k.ok.2.2.1.1
    have r21 : ∀ k : Kept (WideOk w a b c m n), k.w.cell? ⟨w.heap.size, 1, none⟩ = some (.int .u64 ((hi a).toNat : Int)) := fun k => k.ok.2.2.1.2.1
    have r30 : ∀ k : Kept (WideOk w a b c m n), k.w.cell? ⟨w.heap.size + 1, 0, none⟩ = some (.int .u64 ((lo b).toNat : Int)) := fun k => k.ok.2.2.2.1.1
    have r31 : ∀ k : Kept (WideOk w a b c m n), k.w.cell? ⟨w.heap.size + 1, 1, none⟩ = some (.int .u64 ((hi b).toNat : Int)) := fun k => k.ok.2.2.2.1.2.1
    have r40 : ∀ k : Kept (WideOk w a b c m n), k.w.cell? ⟨w.heap.size + 1 + 1, 0, none⟩ = some (.int .u64 ((lo c).toNat : Int)) := fun k => k.ok.2.2.2.2.1.1
    have r41 : ∀ k : Kept (WideOk w a b c m n), k.w.cell? ⟨w.heap.size + 1 + 1, 1, none⟩ = some (.int .u64 ((hi c).toNat : Int)) := fun k => k.ok.2.2.2.2.1.2.1
    have r50 : ∀ k : Kept (WideOk w a b c m n), k.w.cell? ⟨w.heap.size + 1 + 1 + 1, 0, none⟩ = some (.int .u64 ((lo (xT b c)).toNat : Int)) := fun k => k.ok.2.2.2.2.2.1.1
    have r51 : ∀ k : Kept (WideOk w a b c m n), k.w.cell? ⟨w.heap.size + 1 + 1 + 1, 1, none⟩ = some (.int .u64 ((hi (xT b c)).toNat : Int)) := fun k => k.ok.2.2.2.2.2.1.2.1
    have hy1 : bits .xor .u64 ((lo (tT a b)).toNat : Int) ((lo (tT a c)).toNat : Int) = ((lo (tT a (xT b c))).toNat : Int) := by
      rw [lo_xT]; congr 3; exact (tT_add a b c).symm
    have hy2 : bits .xor .u64 ((hi (tT a b)).toNat : Int) ((hi (tT a c)).toNat : Int) = ((hi (tT a (xT b c))).toNat : Int) := by
      rw [hi_xT]; congr 3; exact (tT_add a b c).symm
    go_wp2_with fail
    refine wp_region_kept (Ok := WideOk w a b c m n) (by kernel_rfl) (by kernel_rfl) HO.out ?_
    repeat (go_big_quiet_step ((rename_i k; first | exact rfl | (go_at_call 9; exact (lives_any k.w).mono fun e w'' h => ⟨h.1, ⟨⟨w'', kept_carry k.ok h.2⟩, rfl⟩⟩) | (go_at_call 17; exact (double_any a k.w).mono fun e w'' h => ⟨h.1, ⟨⟨w'', kept_carry k.ok h.2⟩, rfl⟩⟩) | (go_at_call_of 19 (Value.agg #[Value.int .u64 ((lo b).toNat : Int), Value.int .u64 ((hi b).toNat : Int)]); go_at_call_of 19 (Value.agg #[Value.int .u64 ((lo a).toNat : Int), Value.int .u64 ((hi a).toNat : Int)]); exact (times_as (tT_comm b a) k.w).mono fun e w'' h => ⟨h.1, ⟨⟨w'', kept_carry k.ok h.2⟩, rfl⟩⟩) | (go_at_call_of 19 (Value.agg #[Value.int .u64 ((lo (tT a b)).toNat : Int), Value.int .u64 ((hi (tT a b)).toNat : Int)]); go_at_call_of 19 (Value.agg #[Value.int .u64 ((lo c).toNat : Int), Value.int .u64 ((hi c).toNat : Int)]); exact (times_any (tT a b) c k.w).mono fun e w'' h => ⟨h.1, ⟨⟨w'', kept_carry k.ok h.2⟩, rfl⟩⟩) | (go_at_call_of 19 (Value.agg #[Value.int .u64 ((lo b).toNat : Int), Value.int .u64 ((hi b).toNat : Int)]); go_at_call_of 19 (Value.agg #[Value.int .u64 ((lo c).toNat : Int), Value.int .u64 ((hi c).toNat : Int)]); exact (times_any b c k.w).mono fun e w'' h => ⟨h.1, ⟨⟨w'', kept_carry k.ok h.2⟩, rfl⟩⟩) | (go_at_call_of 19 (Value.agg #[Value.int .u64 ((lo a).toNat : Int), Value.int .u64 ((hi a).toNat : Int)]); go_at_call_of 19 (Value.agg #[Value.int .u64 ((lo (tT b c)).toNat : Int), Value.int .u64 ((hi (tT b c)).toNat : Int)]); exact (times_as (tT_assoc a b c).symm k.w).mono fun e w'' h => ⟨h.1, ⟨⟨w'', kept_carry k.ok h.2⟩, rfl⟩⟩) | (go_at_call_of 19 (Value.agg #[Value.int .u64 ((lo a).toNat : Int), Value.int .u64 ((hi a).toNat : Int)]); go_at_call_of 19 (Value.agg #[Value.int .u64 ((lo (xT b c)).toNat : Int), Value.int .u64 ((hi (xT b c)).toNat : Int)]); exact (times_any a (xT b c) k.w).mono fun e w'' h => ⟨h.1, ⟨⟨w'', kept_carry k.ok h.2⟩, rfl⟩⟩) | (go_at_call_of 19 (Value.agg #[Value.int .u64 ((lo a).toNat : Int), Value.int .u64 ((hi a).toNat : Int)]); go_at_call_of 19 (Value.agg #[Value.int .u64 2, Value.int .u64 0]); exact (times_two a k.w).mono fun e w'' h => ⟨h.1, ⟨⟨w'', kept_carry k.ok h.2⟩, rfl⟩⟩) | (go_at_call_of 19 (Value.agg #[Value.int .u64 ((lo a).toNat : Int), Value.int .u64 ((hi a).toNat : Int)]); go_at_call_of 19 (Value.agg #[Value.int .u64 1, Value.int .u64 0]); exact (times_one a k.w).mono fun e w'' h => ⟨h.1, ⟨⟨w'', kept_carry k.ok h.2⟩, rfl⟩⟩))))
    refine wpQuiet_nil ?_
    intro _ hw'
    obtain ⟨k, hk⟩ := hw'
    subst hk
    go_wp2
    go_ret
    exact ⟨rfl, k.ok.2.2.2.2.2.2⟩
end Go.Proofs.Ytofecnieicnfgaa
