/-
  May a header be: the program's answer and the document's. May a header be: the program's answer and the document's.
-/
import Derived.Test.YtgjabfjkokpkiaaDoorQ1
import Derived.Test.YtgjabfjkokpkiaaDoorQ45
namespace Go.Proofs.YtgjabfjkokpkiaaDoor
set_option maxRecDepth 20000
open Go.RowKit Go.BigFrame
theorem exec_loadR {P : Program} {o : Oper} {a : Act} {w : World} (t : TypeId) (x : Operand) (ho : o.op = .load t x) (b off n : Nat) (g : Nat → Value) {d : TypeDesc} (hx : a.eval x = .pointer (some ⟨b, off, none⟩)) (h : w.rangeAt b off (row n g))
    (hu : P.underlying t = some d) (hd : d.isRow = true) (hi : (P.info? t).map (·.size) = some n) : (execOp a.eval o).run P w = .ok (.value (.agg (row n g).toArray)) w := by
  unfold execOp
  simp only [ho, hx, Instr.loadAt, Instr.sureAddr, Sem.run_bind, Sem.run_pure, Result.andThen_ok, run_loadVar_mid (P := P) w b off t (row n g) _ h hu hd (by rw [row_length]; exact hi)]
theorem infoP : (Tryd.prog.info? 34).map (·.size) = some 3 := by kernel_rfl
def okA (h : Hd) : Prop := 1 ≤ h.g.toNat ∧ (1 ≤ h.se ∧ h.se ≤ 1024) ∧ (1 ≤ h.sl ∧ h.sl ≤ 8) ∧ (16 ≤ h.jo ∧ h.jo ≤ 256) ∧ (1 ≤ h.sg ∧ h.sg ≤ 16) ∧ h.sg + 10 ≤ h.jo
def okH (h : Hd) : Prop := okA h ∧ okP h.ti h.me h.la
theorem hd_pa {c : Nat} {h : Hd} {w : World} (H : RowAt c 24 (hdv h) w) : w.rangeAt c 5 (row 3 (pav h.ti h.me h.la)) := fun j x hx => by
  obtain ⟨hj, rfl⟩ := row_some hx
  rw [H.1 (5 + j) (by omega)]
  rcases (by omega : j = 0 ∨ j = 1 ∨ j = 2) with rfl | rfl | rfl <;> rfl
theorem within_t {x a b : Int} (h : a ≤ x ∧ x ≤ b) (w : World) : Calls Tryd.prog 43 #[.int .i64 x, .int .i64 a, .int .i64 b] w fun e w' => e = .returned (.bool true) ∧ w' = w := by
  have := within_any x a b w
  rwa [show inB3 x a b = true by unfold inB3; simp [h.1, h.2]] at this
theorem above_t {x : BitVec 64} (h : 1 ≤ x.toNat) (w : World) : Calls Tryd.prog 44 #[.int .u64 (x.toNat : Int), .int .u64 0] w fun e w' => e = .returned (.bool true) ∧ w' = w := by
  have := above_any x 0#64 w
  rwa [show decide ((0#64).toNat < x.toNat) = true by simp; omega] at this
set_option maxRecDepth 20000 in
set_option maxHeartbeats 2000000 in
theorem ck_2311 (h : Hd) (w : World) (a1 : (1 ≤ h.se ∧ h.se ≤ 1024)) (a2 : (1 ≤ h.sl ∧ h.sl ≤ 8)) (a3 : (16 ≤ h.jo ∧ h.jo ≤ 256)) (a4 : (1 ≤ h.sg ∧ h.sg ≤ 16)) (a5 : (h.sg + 10 ≤ h.jo)) (a6 : (1 ≤ h.g.toNat)) (a7 : (okP h.ti h.me h.la)) : Calls Tryd.prog 24 #[.agg (row 24 (hdv h)).toArray] w fun e w' => e = .returned (.int .i64 0) ∧ Ext w w' := by
  have H0 : Hid (RowAt w.heap.size 24 (hdv h) (w.alloc (.cells (row 24 (hdv h)).toArray 37))) := RowAt.new w 24 _ 37
  have hE0 : Hid (Ext w (w.alloc (.cells (row 24 (hdv h)).toArray 37))) := (Below.refl _ _).alloc (Nat.le_refl _) _
  go_enter Tryd.func24, Tryd.ntmps24
  go_upto_region 1 with (fail)
  generalize w.alloc (.cells (row 24 (hdv h)).toArray 37) = w1 at *
  obtain ⟨c, hc⟩ : ∃ c, c = w.heap.size := ⟨_, rfl⟩
  rw [← hc] at H0 ⊢
  clear hc
  have e0 : w1.cell? ⟨c, 0, none⟩ = some (.int .u64 (h.g.toNat : Int)) := H0.out.1 0 (by decide)
  have e1 : w1.cell? ⟨c, 1, none⟩ = some (.int .i64 h.se) := H0.out.1 1 (by decide)
  have e2 : w1.cell? ⟨c, 2, none⟩ = some (.int .i64 h.sl) := H0.out.1 2 (by decide)
  have e3 : w1.cell? ⟨c, 3, none⟩ = some (.int .i64 h.jo) := H0.out.1 3 (by decide)
  have e4 : w1.cell? ⟨c, 4, none⟩ = some (.int .i64 h.sg) := H0.out.1 4 (by decide)
  have k1 := hideit (within_t a1 w1)
  have k2 := hideit (within_t a2 w1)
  have k3 := hideit (within_t a3 w1)
  have k4 := hideit (within_t a4 w1)
  have k6 := hideit (above_t a6 w1)
  have hm : IntKind.i64.wrap (h.sg + 10) = h.sg + 10 := by rw [IntKind.wrap_i64]; omega
  have hb5 : decide (h.sg + 10 ≤ h.jo) = true := by simp; omega
  have k7 := hideit (acheck h.ti h.me h.la w1 0 ⟨fun _ => rfl, fun hh => absurd a7 hh⟩)
  refine wp_region_lit ?_
  refine wpList_run rfl (.pointer (some ⟨c, 1, none⟩)) (by simp [go_sem]) ?_
  simp only [zp0, zp1, zp2, zp3]
  refine wpList_run rfl (.int .i64 h.se) (by simp [go_sem, e1]) ?_
  simp only [zp0, zp1, zp2, zp3]
  refine wpList_call rfl (by simp [go_sem]; exact ⟨rfl, rfl⟩) ?_
  refine k1.out.mono ?_
  rintro e9 w9 ⟨rfl, hw9⟩
  refine ⟨_, rfl, ?_⟩
  simp only [zp0, zp1, zp2, zp3]
  rw [hw9]
  clear hw9 w9
  refine wpList_run rfl (.bool true) (by simp [go_sem]) ?_
  simp only [zp0, zp1, zp2, zp3]
  refine wpList_runW rfl (.pointer (some ⟨c, 2, none⟩)) (by simp [go_sem]) ?_
  simp only [zp0, zp1, zp2, zp3]
  refine wpList_runW rfl (.int .i64 h.sl) (by simp [go_sem, e2]) ?_
  simp only [zp0, zp1, zp2, zp3]
  refine wpList_callW rfl (by simp [go_sem]; exact ⟨rfl, rfl⟩) ?_
  refine k2.out.mono ?_
  rintro e9 w9 ⟨rfl, hw9⟩
  refine ⟨_, rfl, ?_⟩
  simp only [zp0, zp1, zp2, zp3]
  rw [hw9]
  clear hw9 w9
  refine wpList_run rfl (.bool true) (by simp [go_sem]) ?_
  simp only [zp0, zp1, zp2, zp3]
  refine wpList_run rfl (.bool true) (by simp [go_sem]) ?_
  simp only [zp0, zp1, zp2, zp3]
  go_upto_region 2 with (fail)
  refine wp_region_lit ?_
  refine wpList_run rfl (.pointer (some ⟨c, 3, none⟩)) (by simp [go_sem]) ?_
  simp only [zp0, zp1, zp2, zp3]
  refine wpList_run rfl (.int .i64 h.jo) (by simp [go_sem, e3]) ?_
  simp only [zp0, zp1, zp2, zp3]
  refine wpList_call rfl (by simp [go_sem]; exact ⟨rfl, rfl⟩) ?_
  refine k3.out.mono ?_
  rintro e9 w9 ⟨rfl, hw9⟩
  refine ⟨_, rfl, ?_⟩
  simp only [zp0, zp1, zp2, zp3]
  rw [hw9]
  clear hw9 w9
  refine wpList_run rfl (.bool true) (by simp [go_sem]) ?_
  simp only [zp0, zp1, zp2, zp3]
  refine wpList_runW rfl (.pointer (some ⟨c, 4, none⟩)) (by simp [go_sem]) ?_
  simp only [zp0, zp1, zp2, zp3]
  refine wpList_runW rfl (.int .i64 h.sg) (by simp [go_sem, e4]) ?_
  simp only [zp0, zp1, zp2, zp3]
  refine wpList_callW rfl (by simp [go_sem]; exact ⟨rfl, rfl⟩) ?_
  refine k4.out.mono ?_
  rintro e9 w9 ⟨rfl, hw9⟩
  refine ⟨_, rfl, ?_⟩
  simp only [zp0, zp1, zp2, zp3]
  rw [hw9]
  clear hw9 w9
  refine wpList_run rfl (.bool true) (by simp [go_sem]) ?_
  simp only [zp0, zp1, zp2, zp3]
  refine wpList_run rfl (.bool true) (by simp [go_sem]) ?_
  simp only [zp0, zp1, zp2, zp3]
  refine wpList_runW rfl (.pointer (some ⟨c, 3, none⟩)) (by simp [go_sem]) ?_
  simp only [zp0, zp1, zp2, zp3]
  refine wpList_runW rfl (.int .i64 h.jo) (by simp [go_sem, e3]) ?_
  simp only [zp0, zp1, zp2, zp3]
  refine wpList_runW rfl (.pointer (some ⟨c, 4, none⟩)) (by simp [go_sem]) ?_
  simp only [zp0, zp1, zp2, zp3]
  refine wpList_runW rfl (.int .i64 h.sg) (by simp [go_sem, e4]) ?_
  simp only [zp0, zp1, zp2, zp3]
  refine wpList_runW rfl (.int .i64 (h.sg + 10)) (by simp [go_sem, hm]) ?_
  simp only [zp0, zp1, zp2, zp3]
  refine wpList_runW rfl (.bool true) (by simp [go_sem, hb5]) ?_
  simp only [zp0, zp1, zp2, zp3]
  refine wpList_run rfl (.bool true) (by simp [go_sem]) ?_
  simp only [zp0, zp1, zp2, zp3]
  refine wpList_run rfl (.bool true) (by simp [go_sem]) ?_
  simp only [zp0, zp1, zp2, zp3]
  go_upto_region 3 with (fail)
  refine wp_region_lit ?_
  refine wpList_run rfl (.pointer (some ⟨c, 0, none⟩)) (by simp [go_sem]) ?_
  simp only [zp0, zp1, zp2, zp3]
  refine wpList_run rfl (.int .u64 (h.g.toNat : Int)) (by simp [go_sem, e0]) ?_
  simp only [zp0, zp1, zp2, zp3]
  refine wpList_call rfl (by simp [go_sem]; exact ⟨rfl, rfl⟩) ?_
  refine k6.out.mono ?_
  rintro e9 w9 ⟨rfl, hw9⟩
  refine ⟨_, rfl, ?_⟩
  simp only [zp0, zp1, zp2, zp3]
  rw [hw9]
  clear hw9 w9
  refine wpList_run rfl (.bool false) (by simp [go_sem]) ?_
  simp only [zp0, zp1, zp2, zp3]
  refine wpList_run rfl (.bool false) (by simp [go_sem]) ?_
  simp only [zp0, zp1, zp2, zp3]
  refine wpList_runW rfl (.bool true) (by simp [go_sem]) ?_
  simp only [zp0, zp1, zp2, zp3]
  refine wpList_runW rfl (.bool false) (by simp [go_sem]) ?_
  simp only [zp0, zp1, zp2, zp3]
  refine wpList_run rfl (.bool false) (by simp [go_sem]) ?_
  simp only [zp0, zp1, zp2, zp3]
  refine wpList_run rfl (.bool false) (by simp [go_sem]) ?_
  simp only [zp0, zp1, zp2, zp3]
  refine wpList_runW rfl (.bool true) (by simp [go_sem]) ?_
  simp only [zp0, zp1, zp2, zp3]
  refine wpList_runW rfl (.bool false) (by simp [go_sem]) ?_
  simp only [zp0, zp1, zp2, zp3]
  refine wpList_run rfl (.bool false) (by simp [go_sem]) ?_
  simp only [zp0, zp1, zp2, zp3]
  refine wpList_run rfl (.bool false) (by simp [go_sem]) ?_
  simp only [zp0, zp1, zp2, zp3]
  refine wpList_runW rfl (.pointer (some ⟨c, 5, none⟩)) (by simp [go_sem]) ?_
  simp only [zp0, zp1, zp2, zp3]
  refine wpList_runW rfl (.agg (row 3 (pav h.ti h.me h.la)).toArray) (exec_loadR 34 (.tmp 42) rfl c 5 3 _ rfl (hd_pa H0.out) Tryd.underlying34 rfl infoP) ?_
  simp only [zp0, zp1, zp2, zp3]
  refine wpList_callW rfl (by simp [go_sem]; exact ⟨rfl, rfl⟩) ?_
  refine k7.out.mono ?_
  rintro e9 w9 ⟨rfl, hw9⟩
  refine ⟨_, rfl, ?_⟩
  simp only [zp0, zp1, zp2, zp3]
  replace hw9 := hideit hw9
  refine wpList_runW rfl (.bool false) (by simp [go_sem]) ?_
  simp only [zp0, zp1, zp2, zp3]
  refine wpList_run rfl (.bool false) (by simp [go_sem]) ?_
  simp only [zp0, zp1, zp2, zp3]
  go_wp2
  go_ret
  exact ⟨rfl, Ext.trans hE0.out hw9.out⟩
end Go.Proofs.YtgjabfjkokpkiaaDoor
namespace Go.Proofs.YtgjabfjkokpkiaaDoor
set_option maxRecDepth 20000
open Go.RowKit Go.BigFrame
end Go.Proofs.YtgjabfjkokpkiaaDoor
