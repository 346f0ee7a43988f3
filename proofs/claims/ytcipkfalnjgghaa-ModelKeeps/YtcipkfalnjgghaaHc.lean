/-
  Headers as rows of 24 cells; may they be, the program's and the document's.
-/
import Derived.Test.YtcipkfalnjgghaaProg
import Derived.Test.YtcipkfalnjgghaaLad
import Derived.Deep.Light
import Derived.Deep.CutRange
import Derived.Deep.RegionWith
import Derived.Test.YtcipkfalnjgghaaSEq
import Derived.Laws.Tables
namespace Go.Proofs.Ytcipkfalnjgghaa
open Go.RowKit Go.BigFrame
/-- a header -/
structure Hd where
  g : BitVec 64
  se : Int
  sl : Int
  jo : Int
  sg : Int
  ti : Int
  me : Int
  la : Int
  nm : Nat → BitVec 8
def hdv (h : Hd) : Nat → Value := fun j => if j = 0 then .int .u64 (h.g.toNat : Int) else if j = 1 then .int .i64 h.se else if j = 2 then .int .i64 h.sl else if j = 3 then .int .i64 h.jo else if j = 4 then .int .i64 h.sg else if j = 5 then .int .i64 h.ti else if j = 6 then .int .i64 h.me else if j = 7 then .int .i64 h.la else .int .u8 ((h.nm (j - 8)).toNat : Int)
def pav (ti me la : Int) : Nat → Value := fun j => if j = 0 then .int .i64 ti else if j = 1 then .int .i64 me else .int .i64 la
def okP (ti me la : Int) : Prop := (1 ≤ ti ∧ ti ≤ 8) ∧ (1 ≤ la ∧ la ≤ 4) ∧ (8 * la ≤ me ∧ me ≤ 256)
set_option maxRecDepth 20000 in
set_option maxHeartbeats 2000000 in
theorem acheck (ti me la : Int) (w : World) (R : Int) (hR : Hid ((okP ti me la → R = 0) ∧ (¬ okP ti me la → R = 80))) :
    Calls Try.prog 69 #[.agg (row 3 (pav ti me la)).toArray] w fun e w' => e = .returned (.int .i64 R) ∧ Ext w w' := by
  have H0 : Hid (RowAt w.heap.size 3 (pav ti me la) (w.alloc (.cells (row 3 (pav ti me la)).toArray 34))) := RowAt.new w 3 _ 34
  have hE0 : Hid (Ext w (w.alloc (.cells (row 3 (pav ti me la)).toArray 34))) := (Below.refl _ _).alloc (Nat.le_refl _) _
  have hno : Hid (¬ okP ti me la → R = 80) := hR.out.2
  have hyes : Hid (okP ti me la → R = 0) := hR.out.1
  clear hR
  go_enter Try.func69, Try.ntmps69
  go_upto_region 1 with (fail)
  generalize w.alloc (.cells (row 3 (pav ti me la)).toArray 34) = w1 at *
  obtain ⟨c, hc⟩ : ∃ c, c = w.heap.size := ⟨_, rfl⟩
  rw [← hc] at H0 ⊢
  clear hc
  have e0 : w1.cell? ⟨c, 0, none⟩ = some (.int .i64 ti) := H0.out.1 0 (by decide)
  have e1 : w1.cell? ⟨c, 1, none⟩ = some (.int .i64 me) := H0.out.1 1 (by decide)
  have e2 : w1.cell? ⟨c, 2, none⟩ = some (.int .i64 la) := H0.out.1 2 (by decide)
  by_cases c1 : 1 ≤ ti
  · by_cases c2 : ti ≤ 8
    · by_cases c3 : 1 ≤ la
      · by_cases c4 : la ≤ 4
        · have hm : IntKind.i64.wrap (8 * la) = 8 * la := by rw [IntKind.wrap_i64]; omega
          by_cases c5 : 8 * la ≤ me
          · by_cases c6 : me ≤ 256
            · have hf : Hid (R = 0) := hideit (hyes.out ⟨⟨c1, c2⟩, ⟨c3, c4⟩, ⟨c5, c6⟩⟩)
              go_wp2
              go_ret
              exact ⟨ret_int hf.out.symm, hE0.out⟩
            · have hf : Hid (R = 80) := hideit (hno.out fun hh => c6 hh.2.2.2)
              go_wp2
              go_ret
              exact ⟨ret_int hf.out.symm, hE0.out⟩
          · have hf : Hid (R = 80) := hideit (hno.out fun hh => c5 hh.2.2.1)
            go_wp2
            go_ret
            exact ⟨ret_int hf.out.symm, hE0.out⟩
        · have hf : Hid (R = 80) := hideit (hno.out fun hh => c4 hh.2.1.2)
          go_wp2
          all_goals (go_ret; exact ⟨ret_int hf.out.symm, hE0.out⟩)
      · have hf : Hid (R = 80) := hideit (hno.out fun hh => c3 hh.2.1.1)
        go_wp2
        all_goals (go_ret; exact ⟨ret_int hf.out.symm, hE0.out⟩)
    · have hf : Hid (R = 80) := hideit (hno.out fun hh => c2 hh.1.2)
      go_wp2
      all_goals (go_ret; exact ⟨ret_int hf.out.symm, hE0.out⟩)
  · have hf : Hid (R = 80) := hideit (hno.out fun hh => c1 hh.1.1)
    go_wp2
    all_goals (go_ret; exact ⟨ret_int hf.out.symm, hE0.out⟩)
def inB3 (x a b : Int) : Bool := decide (a ≤ x) && decide (x ≤ b)
theorem within_any (x a b : Int) (w : World) : Calls Try.prog 67 #[.int .i64 x, .int .i64 a, .int .i64 b] w fun e w' => e = .returned (.bool (inB3 x a b)) ∧ w' = w := by
  unfold inB3
  by_cases c1 : a ≤ x <;> by_cases c2 : x ≤ b <;> (go_enter Try.func67, Try.ntmps67; go_wp2; go_ret; exact ⟨by simp [c1, c2], rfl⟩)
theorem above_any (x y : BitVec 64) (w : World) : Calls Try.prog 68 #[.int .u64 (x.toNat : Int), .int .u64 (y.toNat : Int)] w fun e w' => e = .returned (.bool (decide (y.toNat < x.toNat))) ∧ w' = w := by
  go_enter Try.func68, Try.ntmps68
  go_wp2
  go_ret
  exact ⟨by simp, rfl⟩
end Go.Proofs.Ytcipkfalnjgghaa
