/-
  May a header be: the program's answer and the document's. Check of a header, the program's and the document's: one walk each. The header of the law.
-/
import Derived.Test.YtfpfgbhdehbggaaGreatDoorQa41
import Derived.Test.YtfpfgbhdehbggaaGreatDoorQa1
import Derived.Test.YtfpfgbhdehbggaaGreatDoorQa16
import Derived.Test.YtfpfgbhdehbggaaGreatDoorQa30
namespace Go.Proofs.YtfpfgbhdehbggaaGreatDoor
set_option maxRecDepth 20000
open Go.RowKit Go.BigFrame
theorem exec_loadR {P : Program} {o : Oper} {a : Act} {w : World} (t : TypeId) (x : Operand) (ho : o.op = .load t x) (b off n : Nat) (g : Nat → Value) {d : TypeDesc} (hx : a.eval x = .pointer (some ⟨b, off, none⟩)) (h : w.rangeAt b off (row n g))
    (hu : P.underlying t = some d) (hd : d.isRow = true) (hi : (P.info? t).map (·.size) = some n) : (execOp a.eval o).run P w = .ok (.value (.agg (row n g).toArray)) w := by
  unfold execOp
  simp only [ho, hx, Instr.loadAt, Instr.sureAddr, Sem.run_bind, Sem.run_pure, Result.andThen_ok, run_loadVar_mid (P := P) w b off t (row n g) _ h hu hd (by rw [row_length]; exact hi)]
theorem infoP : (Tryz.prog.info? 51).map (·.size) = some 3 := by kernel_rfl
def okA (h : Hd) : Prop := 1 ≤ h.g.toNat ∧ (1 ≤ h.se ∧ h.se ≤ 1024) ∧ (1 ≤ h.sl ∧ h.sl ≤ 8) ∧ (16 ≤ h.jo ∧ h.jo ≤ 256) ∧ (1 ≤ h.sg ∧ h.sg ≤ 16) ∧ h.sg + 10 ≤ h.jo
def okH (h : Hd) : Prop := okA h ∧ okP h.ti h.me h.la
theorem hd_pa {c : Nat} {h : Hd} {w : World} (H : RowAt c 24 (hdv h) w) : w.rangeAt c 5 (row 3 (pav h.ti h.me h.la)) := fun j x hx => by
  obtain ⟨hj, rfl⟩ := row_some hx
  rw [H.1 (5 + j) (by omega)]
  rcases (by omega : j = 0 ∨ j = 1 ∨ j = 2) with rfl | rfl | rfl <;> rfl
theorem wpList_not {P : Program} {ops : Array Oper} {rest : List Oper} {o : Oper} {a : Act} {Q : Exit → Act → World → Prop} {w : World} (hw : Region.wanted o (yielded ops a.tmps) = false) (h : wpList P ops Q rest (a.put o.dst undef) w) : wpList P ops Q (o :: rest) a w := by
  unfold wpList
  rw [if_neg (by rw [hw]; simp)]
  exact h
def sel (b : Bool) (v : Value) : Value := match b with | true => v | false => undef
theorem xgT {P : Program} {ops : Array Oper} {rest : List Oper} {o : Oper} {a : Act} {Q : Exit → Act → World → Prop} {w : World} (b : Bool) (hw : Region.wanted o (yielded ops a.tmps) = (some b == some true)) (v : Value) (hr : b = true → (execOp a.eval o).run P w = .ok (.value v) w) (h : wpList P ops Q rest (a.put o.dst (sel b v)) w) : wpList P ops Q (o :: rest) a w := by
  cases b
  · exact wpList_not hw h
  · exact wpList_runW hw v (hr rfl) h
theorem xgF {P : Program} {ops : Array Oper} {rest : List Oper} {o : Oper} {a : Act} {Q : Exit → Act → World → Prop} {w : World} (b : Bool) (hw : Region.wanted o (yielded ops a.tmps) = (some b == some false)) (v : Value) (hr : b = false → (execOp a.eval o).run P w = .ok (.value v) w) (h : wpList P ops Q rest (a.put o.dst (sel (!b) v)) w) : wpList P ops Q (o :: rest) a w := by
  cases b
  · exact wpList_runW hw v (hr rfl) h
  · exact wpList_not hw h
theorem xcT {P : Program} {ops : Array Oper} {rest : List Oper} {o : Oper} {a : Act} {Q : Exit → Act → World → Prop} {w : World} {f : FuncId} {args : Array Value} (b : Bool) (hw : Region.wanted o (yielded ops a.tmps) = (some b == some true)) (v : Value) (hr : b = true → (execOp a.eval o).run P w = .ok (.enter f args) w) (hc : b = true → Calls P f args w fun e w' => e = .returned v ∧ w' = w) (h : wpList P ops Q rest (a.put o.dst (sel b v)) w) : wpList P ops Q (o :: rest) a w := by
  cases b
  · exact wpList_not hw h
  · exact wpList_callW hw (hr rfl) ((hc rfl).mono fun e w' ⟨h1, h2⟩ => ⟨v, h1, by rw [h2]; exact h⟩)
theorem xcF {P : Program} {ops : Array Oper} {rest : List Oper} {o : Oper} {a : Act} {Q : Exit → Act → World → Prop} {w : World} {f : FuncId} {args : Array Value} (b : Bool) (hw : Region.wanted o (yielded ops a.tmps) = (some b == some false)) (v : Value) (hr : b = false → (execOp a.eval o).run P w = .ok (.enter f args) w) (hc : b = false → Calls P f args w fun e w' => e = .returned v ∧ Ext w w') (h : ∀ w', Ext w w' → wpList P ops Q rest (a.put o.dst (sel (!b) v)) w') : wpList P ops Q (o :: rest) a w := by
  cases b
  · exact wpList_callW hw (hr rfl) ((hc rfl).mono fun e w' ⟨h1, h2⟩ => ⟨v, h1, h w' h2⟩)
  · exact wpList_not hw (h w (Ext.refl w))
theorem xand {P : Program} {o : Oper} {a : Act} {w : World} (i j : Nat) (b c : Bool) (ho : o.op = .pick (.tmp i) (.tmp j) (.const (.bool false))) (hi : a.eval (.tmp i) = .bool b) (hj : a.eval (.tmp j) = sel b (.bool c)) : (execOp a.eval o).run P w = .ok (.value (.bool (b && c))) w := by
  have h1 : a.tmps[i]?.getD undef = .bool b := by rw [← hi]; simp [go_sem]
  have h2 : a.tmps[j]?.getD undef = sel b (.bool c) := by rw [← hj]; simp [go_sem]
  cases b <;> simp [ho, h1, h2, go_sem, sel]
theorem xor_ {P : Program} {o : Oper} {a : Act} {w : World} (i j : Nat) (b c : Bool) (ho : o.op = .pick (.tmp i) (.const (.bool true)) (.tmp j)) (hi : a.eval (.tmp i) = .bool b) (hj : a.eval (.tmp j) = sel (!b) (.bool c)) : (execOp a.eval o).run P w = .ok (.value (.bool (b || c))) w := by
  have h1 : a.tmps[i]?.getD undef = .bool b := by rw [← hi]; simp [go_sem]
  have h2 : a.tmps[j]?.getD undef = sel (!b) (.bool c) := by rw [← hj]; simp [go_sem]
  cases b <;> simp [ho, h1, h2, go_sem, sel]
instance (h : Hd) : Decidable (okH h) := by unfold okH okA okP; infer_instance
instance (a b c : Int) : Decidable (okP a b c) := by unfold okP; infer_instance
def paE (h : Hd) : Int := if okP h.ti h.me h.la then 0 else 80
theorem paE_hid (h : Hd) : Hid ((okP h.ti h.me h.la → paE h = 0) ∧ (¬ okP h.ti h.me h.la → paE h = 80)) := ⟨fun q => if_pos q, fun q => if_neg q⟩
end Go.Proofs.YtfpfgbhdehbggaaGreatDoor
namespace Go.Proofs.YtfpfgbhdehbggaaGreatDoor
open Go.RowKit Go.BigFrame
set_option linter.unusedVariables false
set_option maxRecDepth 20000
set_option maxRecDepth 20000 in
set_option maxHeartbeats 4000000 in
theorem check_any (h : Hd) (w : World) (R : Int) (hR : Hid ((okH h → R = 0) ∧ (¬ okH h → R = 1))) : Calls Tryz.prog 43 #[.agg (row 24 (hdv h)).toArray] w fun e w' => e = .returned (.int .i64 R) ∧ Ext w w' := by
  obtain ⟨b7, hl_b7⟩ : ∃ b : Bool, b = inB3 h.se 1 1024 := ⟨_, rfl⟩
  replace hl_b7 := hideit hl_b7
  obtain ⟨b11, hl_b11⟩ : ∃ b : Bool, b = inB3 h.sl 1 8 := ⟨_, rfl⟩
  replace hl_b11 := hideit hl_b11
  obtain ⟨b12, hl_b12⟩ : ∃ b : Bool, b = (b7 && b11) := ⟨_, rfl⟩
  replace hl_b12 := hideit hl_b12
  obtain ⟨b15, hl_b15⟩ : ∃ b : Bool, b = inB3 h.jo 16 256 := ⟨_, rfl⟩
  replace hl_b15 := hideit hl_b15
  obtain ⟨b19, hl_b19⟩ : ∃ b : Bool, b = inB3 h.sg 1 16 := ⟨_, rfl⟩
  replace hl_b19 := hideit hl_b19
  obtain ⟨b20, hl_b20⟩ : ∃ b : Bool, b = (b15 && b19) := ⟨_, rfl⟩
  replace hl_b20 := hideit hl_b20
  obtain ⟨b27, hl_b27⟩ : ∃ b : Bool, b = decide (IntKind.i64.wrap (h.sg + 10) ≤ h.jo) := ⟨_, rfl⟩
  replace hl_b27 := hideit hl_b27
  obtain ⟨b28, hl_b28⟩ : ∃ b : Bool, b = (b20 && b27) := ⟨_, rfl⟩
  replace hl_b28 := hideit hl_b28
  obtain ⟨b31, hl_b31⟩ : ∃ b : Bool, b = decide ((0#64).toNat < h.g.toNat) := ⟨_, rfl⟩
  replace hl_b31 := hideit hl_b31
  obtain ⟨b32, hl_b32⟩ : ∃ b : Bool, b = !b31 := ⟨_, rfl⟩
  replace hl_b32 := hideit hl_b32
  obtain ⟨b35, hl_b35⟩ : ∃ b : Bool, b = !b12 := ⟨_, rfl⟩
  replace hl_b35 := hideit hl_b35
  obtain ⟨b36, hl_b36⟩ : ∃ b : Bool, b = (b32 || b35) := ⟨_, rfl⟩
  replace hl_b36 := hideit hl_b36
  obtain ⟨b39, hl_b39⟩ : ∃ b : Bool, b = !b28 := ⟨_, rfl⟩
  replace hl_b39 := hideit hl_b39
  obtain ⟨b40, hl_b40⟩ : ∃ b : Bool, b = (b36 || b39) := ⟨_, rfl⟩
  replace hl_b40 := hideit hl_b40
  obtain ⟨b45, hl_b45⟩ : ∃ b : Bool, b = (paE h != 0) := ⟨_, rfl⟩
  replace hl_b45 := hideit hl_b45
  obtain ⟨b46, hl_b46⟩ : ∃ b : Bool, b = (b40 || b45) := ⟨_, rfl⟩
  replace hl_b46 := hideit hl_b46
  have hfin : b46 = true ↔ ¬ okH h := by
    have hW : 1 ≤ h.sg → h.sg ≤ 16 → IntKind.i64.wrap (h.sg + 10) = h.sg + 10 := fun _ _ => by rw [IntKind.wrap_i64]; omega
    have hp : paE h = 0 ↔ okP h.ti h.me h.la := by
      unfold paE
      by_cases q : okP h.ti h.me h.la
      · rw [if_pos q]; exact ⟨fun _ => q, fun _ => rfl⟩
      · rw [if_neg q]; exact ⟨fun e => absurd e (by decide), fun e => absurd e q⟩
    rw [hl_b46.out, hl_b45.out, hl_b40.out, hl_b39.out, hl_b36.out, hl_b35.out, hl_b32.out, hl_b31.out, hl_b28.out, hl_b27.out, hl_b20.out, hl_b19.out, hl_b15.out, hl_b12.out, hl_b11.out, hl_b7.out]
    unfold okH okA
    generalize IntKind.i64.wrap (h.sg + 10) = W at hW ⊢
    by_cases q : okP h.ti h.me h.la
    · have q0 := hp.2 q
      simp [q, q0, inB3]
      omega
    · have q0 : ¬ paE h = 0 := fun e => q (hp.1 e)
      simp [q, q0]
  have hE := hideit (Ext.refl w)
  go_enter Tryz.func43, Tryz.ntmps43
  go_upto_region 0 with (fail)
  refine wp_region_lit ?_
  have A0 := hideit (RowAt.new w 24 (hdv h) 54)
  have XB : Ext w (w.alloc (.cells (row 24 (hdv h)).toArray 54)) := (Below.refl _ _).alloc (Nat.le_refl _) _
  have AE := hideit (Ext.trans hE.out (XB))
  have AB := hideit (hE.out.size)
  clear XB
  refine wpList_to rfl (.pointer (some ⟨w.heap.size, 0, none⟩)) (w.alloc (.cells (row 24 (hdv h)).toArray 54)) (by simp [go_sem]) ?_
  simp only [zp0, zp1, zp2, zp3]
  generalize w.alloc (.cells (row 24 (hdv h)).toArray 54) = x1 at A0 AE ⊢
  obtain ⟨c1, ec1⟩ : ∃ b, b = w.heap.size := ⟨_, rfl⟩
  have ABc1 : Hid (w.heap.size ≤ c1) := by rw [ec1]; exact AB.out
  clear AB
  rw [← ec1] at A0  ⊢
  clear ec1
  have Hc1 := A0
  clear A0
  replace hE := AE
  clear AE
  refine xm [some (.int .i64 0)] (by kernel_rfl) (by simp [xr, go_sem]) ?_
  simp only [xw, p0, p1, p2, p3]
  go_upto_region 1 with (fail)
  refine wp_region_lit ?_
  refine wpList_run rfl (.pointer (some ⟨c1, 1, none⟩)) (by simp [go_sem]) ?_
  simp only [zp0, zp1, zp2, zp3]
  refine wpList_run rfl (.int .i64 h.se) (by have q : x1.cell? ⟨c1, 1, none⟩ = some (.int .i64 h.se) := Hc1.out.1 1 (by decide); simp [go_sem, q]) ?_
  simp only [zp0, zp1, zp2, zp3]
  refine wpList_call rfl (by simp [go_sem]) ((show Calls Tryz.prog 75 #[.int .i64 (h.se), .int .i64 1, .int .i64 1024] x1 fun e w' => e = .returned (.bool b7) ∧ w' = x1 from (by rw [hl_b7.out]; exact within_any (h.se) 1 1024 x1)).mono ?_)
  rintro e yy ⟨rfl, hyy⟩
  refine ⟨_, rfl, ?_⟩
  simp only [zp0, zp1, zp2, zp3]
  replace hyy := hyy.symm
  subst hyy
  refine wpList_run rfl (.bool b7) (by simp [go_sem]) ?_
  simp only [zp0, zp1, zp2, zp3]
  refine xgT b7 rfl (.pointer (some ⟨c1, 2, none⟩)) (fun hb => by subst hb; simp [go_sem]) ?_
  simp only [zp0, zp1, zp2, zp3]
  refine xgT b7 rfl (.int .i64 h.sl) (fun hb => by subst hb; have q : x1.cell? ⟨c1, 2, none⟩ = some (.int .i64 h.sl) := Hc1.out.1 2 (by decide); simp [go_sem, q, sel]) ?_
  simp only [zp0, zp1, zp2, zp3]
  refine xcT (f := 75) (args := #[.int .i64 (h.sl), .int .i64 1, .int .i64 8]) b7 rfl (.bool b11) (fun hb => by subst hb; simp [go_sem, sel]) (fun hb => (by rw [hl_b11.out]; exact within_any (h.sl) 1 8 x1)) ?_
  simp only [zp0, zp1, zp2, zp3]
  refine wpList_run rfl (.bool b12) (by rw [hl_b12.out]; exact xand 8 11 b7 b11 rfl rfl rfl) ?_
  simp only [zp0, zp1, zp2, zp3]
  refine wpList_run rfl (.bool b12) (by simp [go_sem]) ?_
  simp only [zp0, zp1, zp2, zp3]
  go_upto_region 2 with (fail)
  refine wp_region_lit ?_
  refine wpList_run rfl (.pointer (some ⟨c1, 3, none⟩)) (by simp [go_sem]) ?_
  simp only [zp0, zp1, zp2, zp3]
  refine wpList_run rfl (.int .i64 h.jo) (by have q : x1.cell? ⟨c1, 3, none⟩ = some (.int .i64 h.jo) := Hc1.out.1 3 (by decide); simp [go_sem, q]) ?_
  simp only [zp0, zp1, zp2, zp3]
  refine wpList_call rfl (by simp [go_sem]) ((show Calls Tryz.prog 75 #[.int .i64 (h.jo), .int .i64 16, .int .i64 256] x1 fun e w' => e = .returned (.bool b15) ∧ w' = x1 from (by rw [hl_b15.out]; exact within_any (h.jo) 16 256 x1)).mono ?_)
  rintro e yy ⟨rfl, hyy⟩
  refine ⟨_, rfl, ?_⟩
  simp only [zp0, zp1, zp2, zp3]
  replace hyy := hyy.symm
  subst hyy
  refine wpList_run rfl (.bool b15) (by simp [go_sem]) ?_
  simp only [zp0, zp1, zp2, zp3]
  refine xgT b15 rfl (.pointer (some ⟨c1, 4, none⟩)) (fun hb => by subst hb; simp [go_sem]) ?_
  simp only [zp0, zp1, zp2, zp3]
  refine xgT b15 rfl (.int .i64 h.sg) (fun hb => by subst hb; have q : x1.cell? ⟨c1, 4, none⟩ = some (.int .i64 h.sg) := Hc1.out.1 4 (by decide); simp [go_sem, q, sel]) ?_
  simp only [zp0, zp1, zp2, zp3]
  refine xcT (f := 75) (args := #[.int .i64 (h.sg), .int .i64 1, .int .i64 16]) b15 rfl (.bool b19) (fun hb => by subst hb; simp [go_sem, sel]) (fun hb => (by rw [hl_b19.out]; exact within_any (h.sg) 1 16 x1)) ?_
  simp only [zp0, zp1, zp2, zp3]
  refine wpList_run rfl (.bool b20) (by rw [hl_b20.out]; exact xand 16 19 b15 b19 rfl rfl rfl) ?_
  simp only [zp0, zp1, zp2, zp3]
  refine wpList_run rfl (.bool b20) (by simp [go_sem]) ?_
  simp only [zp0, zp1, zp2, zp3]
  refine xgT b20 rfl (.pointer (some ⟨c1, 3, none⟩)) (fun hb => by subst hb; simp [go_sem]) ?_
  simp only [zp0, zp1, zp2, zp3]
  refine xgT b20 rfl (.int .i64 h.jo) (fun hb => by subst hb; have q : x1.cell? ⟨c1, 3, none⟩ = some (.int .i64 h.jo) := Hc1.out.1 3 (by decide); simp [go_sem, q, sel]) ?_
  simp only [zp0, zp1, zp2, zp3]
  refine xgT b20 rfl (.pointer (some ⟨c1, 4, none⟩)) (fun hb => by subst hb; simp [go_sem]) ?_
  simp only [zp0, zp1, zp2, zp3]
  refine xgT b20 rfl (.int .i64 h.sg) (fun hb => by subst hb; have q : x1.cell? ⟨c1, 4, none⟩ = some (.int .i64 h.sg) := Hc1.out.1 4 (by decide); simp [go_sem, q, sel]) ?_
  simp only [zp0, zp1, zp2, zp3]
  refine xgT b20 rfl (.int .i64 (IntKind.i64.wrap (h.sg + 10))) (fun hb => by subst hb; simp [go_sem, sel]) ?_
  simp only [zp0, zp1, zp2, zp3]
  refine xgT b20 rfl (.bool b27) (fun hb => by subst hb; simp [go_sem, hl_b27.out, sel]) ?_
  simp only [zp0, zp1, zp2, zp3]
  refine wpList_run rfl (.bool b28) (by rw [hl_b28.out]; exact xand 21 27 b20 b27 rfl rfl rfl) ?_
  simp only [zp0, zp1, zp2, zp3]
  refine wpList_run rfl (.bool b28) (by simp [go_sem]) ?_
  simp only [zp0, zp1, zp2, zp3]
  go_upto_region 3 with (fail)
  refine wp_region_lit ?_
  refine wpList_run rfl (.pointer (some ⟨c1, 0, none⟩)) (by simp [go_sem]) ?_
  simp only [zp0, zp1, zp2, zp3]
  refine wpList_run rfl (.int .u64 (h.g.toNat : Int)) (by have q : x1.cell? ⟨c1, 0, none⟩ = some (.int .u64 (h.g.toNat : Int)) := Hc1.out.1 0 (by decide); simp [go_sem, q]) ?_
  simp only [zp0, zp1, zp2, zp3]
  refine wpList_call rfl (by simp [go_sem]) ((show Calls Tryz.prog 76 #[.int .u64 (h.g.toNat : Int), .int .u64 0] x1 fun e w' => e = .returned (.bool b31) ∧ w' = x1 from (by rw [hl_b31.out]; exact above_any h.g 0#64 x1)).mono ?_)
  rintro e yy ⟨rfl, hyy⟩
  refine ⟨_, rfl, ?_⟩
  simp only [zp0, zp1, zp2, zp3]
  replace hyy := hyy.symm
  subst hyy
  refine wpList_run rfl (.bool b32) (by simp [go_sem, hl_b32.out]) ?_
  simp only [zp0, zp1, zp2, zp3]
  refine wpList_run rfl (.bool b32) (by simp [go_sem]) ?_
  simp only [zp0, zp1, zp2, zp3]
  refine xgF b32 rfl (.bool b12) (fun hb => by subst hb; simp [go_sem]) ?_
  simp only [zp0, zp1, zp2, zp3]
  refine xgF b32 rfl (.bool b35) (fun hb => by subst hb; simp [go_sem, hl_b35.out, sel]) ?_
  simp only [zp0, zp1, zp2, zp3]
  refine wpList_run rfl (.bool b36) (by rw [hl_b36.out]; exact xor_ 33 35 b32 b35 rfl rfl rfl) ?_
  simp only [zp0, zp1, zp2, zp3]
  refine wpList_run rfl (.bool b36) (by simp [go_sem]) ?_
  simp only [zp0, zp1, zp2, zp3]
  refine xgF b36 rfl (.bool b28) (fun hb => by subst hb; simp [go_sem]) ?_
  simp only [zp0, zp1, zp2, zp3]
  refine xgF b36 rfl (.bool b39) (fun hb => by subst hb; simp [go_sem, hl_b39.out, sel]) ?_
  simp only [zp0, zp1, zp2, zp3]
  refine wpList_run rfl (.bool b40) (by rw [hl_b40.out]; exact xor_ 37 39 b36 b39 rfl rfl rfl) ?_
  simp only [zp0, zp1, zp2, zp3]
  refine wpList_run rfl (.bool b40) (by simp [go_sem]) ?_
  simp only [zp0, zp1, zp2, zp3]
  refine xgF b40 rfl (.pointer (some ⟨c1, 5, none⟩)) (fun hb => by subst hb; simp [go_sem]) ?_
  simp only [zp0, zp1, zp2, zp3]
  refine xgF b40 rfl (.agg (row 3 (pav h.ti h.me h.la)).toArray) (fun hb => by subst hb; exact exec_loadR 51 (.tmp 42) rfl c1 5 3 _ rfl (hd_pa Hc1.out) Tryz.underlying51 rfl infoP) ?_
  simp only [zp0, zp1, zp2, zp3]
  refine xcF b40 rfl (.int .i64 (paE h)) (fun hb => by subst hb; simp [go_sem, sel]) (fun hb => acheck h.ti h.me h.la x1 (paE h) (paE_hid h)) ?_
  intro w2 hX2
  replace hE := hideit (Ext.trans hE.out hX2)
  simp only [zp0, zp1, zp2, zp3]
  refine xgF b40 rfl (.bool b45) (fun hb => by subst hb; simp [go_sem, hl_b45.out, sel]) ?_
  simp only [zp0, zp1, zp2, zp3]
  refine wpList_run rfl (.bool b46) (by rw [hl_b46.out]; exact xor_ 41 45 b40 b45 rfl rfl rfl) ?_
  simp only [zp0, zp1, zp2, zp3]
  cases b46 with
  | true =>
    obtain rfl := hR.out.2 (hfin.1 rfl)
    clear hfin
    go_upto_region 4 with (fail)
    refine wp_region_lit ?_
    refine xm [some (.int .i64 1)] (by kernel_rfl) (by simp [xr, go_sem]) ?_
    simp only [xw, p0, p1, p2, p3]
    go_wp2
    go_ret
    exact ⟨rfl, hE.out⟩
  | false =>
    obtain rfl := hR.out.1 (Decidable.byContradiction fun q => by have := hfin.2 q; cases this)
    clear hfin
    go_upto_region 5 with (fail)
    refine wp_region_lit ?_
    refine xm [some (.int .i64 0)] (by kernel_rfl) (by simp [xr, go_sem]) ?_
    simp only [xw, p0, p1, p2, p3]
    go_wp2
    go_ret
    exact ⟨rfl, hE.out⟩
theorem check_ok (h : Hd) (w : World) (hk : okH h) : Calls Tryz.prog 43 #[.agg (row 24 (hdv h)).toArray] w fun e w' => e = .returned (.int .i64 0) ∧ Ext w w' := check_any h w 0 ⟨fun q => rfl, fun q => absurd hk q⟩
end Go.Proofs.YtfpfgbhdehbggaaGreatDoor
namespace Go.Proofs.YtfpfgbhdehbggaaGreatDoor
open Go.RowKit Go.BigFrame
set_option linter.unusedVariables false
set_option maxRecDepth 20000
def hSe (n : Int) : Hd := ⟨1#64, n, 1, 40, 2, 1, 8, 1, fun _ => 0#8⟩
def hS0 : Hd := ⟨0#64, 0, 0, 0, 0, 0, 0, 0, fun _ => 0#8⟩
theorem inf37 : (Tryz.prog.info? 54).map (·.size) = some 24 := by kernel_rfl
theorem zero37 (w : World) : (zeroValue 54).run Tryz.prog w = .ok (.agg (row 24 (hdv hS0)).toArray) w := by kernel_rfl
theorem bPs (w : World) : (Instr.build 51 #[(0, .int .i64 1), (1, .int .i64 8), (2, .int .i64 1)]).run Tryz.prog w = .ok (.agg (row 3 (pav 1 8 1)).toArray) w := by kernel_rfl
theorem bHs (n : Int) (w : World) : (Instr.build 54 #[(0, .int .u64 1), (1, .int .i64 n), (2, .int .i64 1), (3, .int .i64 40), (4, .int .i64 2), (5, .agg (row 3 (pav 1 8 1)).toArray)]).run Tryz.prog w = .ok (.agg (row 24 (hdv (hSe n))).toArray) w := by kernel_rfl
theorem hd_one (h : Hd) (j : Nat) : (hdv h j).oneCell' = true := by
  unfold hdv
  repeat (first | rfl | split)
set_option maxRecDepth 20000 in
set_option maxHeartbeats 4000000 in
theorem head_any (n : Int) (w : World) : Calls Tryz.prog 22 #[.int .i64 n] w fun e w' => e = .returned (.agg (row 24 (hdv (hSe n))).toArray) ∧ Ext w w' := by
  have hE := hideit (Ext.refl w)
  go_enter Tryz.func22, Tryz.ntmps22
  go_upto_region 0 with (fail)
  refine wp_region_lit ?_
  have A0 := hideit (RowAt.new w 24 (hdv hS0) 54)
  have AE := hideit (Below.alloc hE.out (Below.size hE.out) (.cells (row 24 (hdv hS0)).toArray 54))
  have AB := hideit (Below.size hE.out)
  refine wpList_to rfl (.pointer (some ⟨w.heap.size, 0, none⟩)) (w.alloc (.cells (row 24 (hdv hS0)).toArray 54)) (xalloc 54 (row 24 (hdv hS0)).toArray rfl (zero37 w)) ?_
  simp only [zp0, zp1, zp2, zp3]
  generalize w.alloc (.cells (row 24 (hdv hS0)).toArray 54) = x2 at A0 AE ⊢
  obtain ⟨z1, ez1⟩ : ∃ b, b = w.heap.size := ⟨_, rfl⟩
  rw [← ez1] at A0 ⊢
  replace AB : Hid (w.heap.size ≤ z1) := by rw [ez1]; exact Nat.le_refl _
  clear ez1
  have Hz1 := A0
  clear A0
  replace hE := AE
  clear AE
  have ABz1 := AB
  clear AB
  go_upto_region 1 with (fail)
  refine wp_region_lit ?_
  refine xm [some (.int .i64 (n))] (by kernel_rfl) (by simp [xr, go_sem]) ?_
  simp only [xw, p0, p1, p2, p3]
  refine wpList_run rfl (.agg (row 3 (pav 1 8 1)).toArray) (xbuild 51 [(0, .const (.int .i64 1)), (1, .const (.int .i64 8)), (2, .const (.int .i64 1))] rfl _ (bPs _)) ?_
  simp only [zp0, zp1, zp2, zp3]
  refine wpList_run rfl (.agg (row 24 (hdv (hSe n))).toArray) (xbuild 54 [(0, .const (.int .u64 1)), (1, .tmp 3), (2, .const (.int .i64 1)), (3, .const (.int .i64 40)), (4, .const (.int .i64 2)), (5, .tmp 4)] rfl _ (bHs n _)) ?_
  simp only [zp0, zp1, zp2, zp3]
  have N0 := hideit (Hz1.out.cells (g' := hdv (hSe n)))
  have NE := hideit (below_setCells z1 (ABz1.out) (row 24 (hdv (hSe n))) 0 _ hE.out)
  refine xst rfl (x2.setCells z1 0 (row 24 (hdv (hSe n)))) (xstore 54 (.tmp 2) (.tmp 5) rfl z1 24 _ (hdv (hSe n)) rfl rfl Hz1.out inf37 (fun j _ => hd_one _ j)) ?_
  simp only [Act.put]
  generalize x2.setCells z1 0 (row 24 (hdv (hSe n))) = x3 at N0 NE ⊢
  replace Hz1 := N0
  replace hE := NE
  clear N0 NE
  go_wp2
  exact bodyPost_ret (ret_row rfl rfl Hz1.out Tryz.underlying54 rfl inf37) rfl ⟨rfl, hE.out⟩
end Go.Proofs.YtfpfgbhdehbggaaGreatDoor
