/-
  Numbers of a header as they are read. A law for regions that draw their order and end with stores, in which operations that read what no store of the region writes may stand out till late: v[a], v[b] = f(..). One walk serves every order. A law for regions that draw their order: operations that read what the region never turns float; operations that turn memory, calls among them, stand one behind the other. One walk serves every order. A header as it is read.
-/
import Derived.Test.YtenlokmoijeehaaDoorGp
import Derived.Test.YtenlokmoijeehaaDoorGa
namespace Go.Proofs.YtenlokmoijeehaaDoor
open Go.RowKit Go.BigFrame
set_option maxRecDepth 20000 in
set_option maxHeartbeats 2000000 in
theorem get_u64 (lo r l n : Nat) (f : Nat → BitVec 8) (w : World) (h : Rd lo r l f false w) (hn : n ≤ l) (hw : iswB n = true) (hn8 : n ≤ 8) :
    Calls Tryd.prog 54 #[.pointer (some ⟨r, 0, none⟩), .int .i64 (n : Int)] w fun e w' => e = .returned (.int .u64 ((leN f n).toNat : Int)) ∧ Rd lo r (l - n) (shF f n) false w' ∧ But r w w' := by
  have k := hideit (ruint_ok lo r l n f w h hn hw hn8)
  clear h hn hw hn8
  go_enter Tryd.func54, Tryd.ntmps54
  go_wp2_with (go_at_call 65; refine k.out.mono ?_; rintro e w2 ⟨rfl, hW2⟩; replace hW2 := hideit hW2)
  go_ret
  exact ⟨rfl, hW2.out⟩
set_option maxRecDepth 20000 in
set_option maxHeartbeats 2000000 in
theorem get_int (lo r l n : Nat) (f : Nat → BitVec 8) (w : World) (h : Rd lo r l f false w) (hn : n ≤ l) (hw : iswB n = true) (hn8 : n ≤ 4) :
    Calls Tryd.prog 55 #[.pointer (some ⟨r, 0, none⟩), .int .i64 (n : Int)] w fun e w' => e = .returned (.int .i64 ((leN f n).toNat : Int)) ∧ Rd lo r (l - n) (shF f n) false w' ∧ But r w w' := by
  have k := hideit (ruint_ok lo r l n f w h hn hw (by omega))
  have hb : (leN f n).toNat < 4294967296 := by
    obtain ⟨h1, h2⟩ := leN_nat f n (by omega)
    rw [h1]
    exact Nat.lt_of_lt_of_le h2 (Nat.pow_le_pow_right (by decide) (by omega : 8 * n ≤ 32))
  obtain ⟨y, hy⟩ : ∃ y, y = leN f n := ⟨_, rfl⟩
  rw [← hy] at k hb ⊢
  have hu : IntKind.i64.wrap (y.toNat : Int) = (y.toNat : Int) := by rw [IntKind.wrap_i64]; omega
  clear h hn hw hn8 hy hb
  go_enter Tryd.func55, Tryd.ntmps55
  go_wp2_with (go_at_call 65; refine k.out.mono ?_; rintro e w2 ⟨rfl, hW2⟩; replace hW2 := hideit hW2)
  go_ret
  exact ⟨rfl, hW2.out⟩
theorem zeroP (w : World) : (zeroValue 24).run Tryd.prog w = .ok (.agg (row 3 (pav 0 0 0)).toArray) w := by kernel_rfl
theorem but_newc {r c : Nat} {w X : World} (h : But r w X) (hc : w.heap.size ≤ c) (v : Value) (i : Nat) : But r w (X.setCell ⟨c, i, none⟩ v) := by
  have k := but_setCell X c i v
  exact ⟨k.os.trans h.os, k.tape.trans h.tape, k.output.trans h.output, Nat.le_trans h.size k.size, fun j hj hne => (k.block j (Nat.lt_of_lt_of_le hj h.size) (fun hh => by injection hh with hh; omega)).trans (h.block j hj hne)⟩
theorem but_new {r c o : Nat} {w X : World} (h : But r w X) (hc : w.heap.size ≤ c) (vs : List Value) : But r w (X.setCells c o vs) := by
  have k := below_setCells (B := c) c (Nat.le_refl _) vs o X (Below.refl c X)
  exact ⟨(Below.os k).trans h.os, (Below.tape k).trans h.tape, (Below.output k).trans h.output, Nat.le_trans h.size (Below.size k), fun i hi hne => (Below.block k i (Nat.lt_of_lt_of_le hi hc)).trans (h.block i hi hne)⟩
theorem Rd.set {lo c d l o : Nat} {f : Nat → BitVec 8} {bad : Bool} {w : World} (h : Rd lo c l f bad w) (hd : c < d) (hlo : lo ≤ c) (vs : List Value) : Rd lo c l f bad (w.setCells d o vs) :=
  h.but (But.sets vs o w (But.refl d w)) (.inr hd) hlo
theorem Rd.setc {lo c d l : Nat} {f : Nat → BitVec 8} {bad : Bool} {w : World} (h : Rd lo c l f bad w) (hd : c < d) (hlo : lo ≤ c) (i : Nat) (v : Value) : Rd lo c l f bad (w.setCell ⟨d, i, none⟩ v) :=
  h.but (but_setCell w d i v) (.inr hd) hlo
set_option maxRecDepth 20000 in
set_option maxHeartbeats 2000000 in
theorem get_pa (lo r l : Nat) (f : Nat → BitVec 8) (w : World) (h : Rd lo r l f false w) (hlo : lo ≤ r) (hn : 4 ≤ l) :
    Calls Tryd.prog 56 #[.pointer (some ⟨r, 0, none⟩)] w fun e w' => e = .returned (.agg (row 3 (pav ((leN f 1).toNat : Int) ((leN (shF f 1) 2).toNat : Int) ((leN (shF (shF f 1) 2) 1).toNat : Int))).toArray) ∧ Rd lo r (l - 1 - 2 - 1) (shF (shF (shF f 1) 2) 1) false w' ∧ But r w w' := by
  have hrw := h.lt
  have Q1 := hideit (RowAt.new w 3 (pav 0 0 0) 24)
  have hE1 : Ext w (w.alloc (.cells (row 3 (pav 0 0 0)).toArray 24)) := (Below.refl _ _).alloc (Nat.le_refl _) _
  have R1 := hideit (h.ext hE1)
  have B1 := hideit (But.of_ext (c := r) hE1)
  clear h hE1
  obtain ⟨x1, hx1⟩ : ∃ x1, x1 = leN f 1 := ⟨_, rfl⟩
  obtain ⟨x2, hx2⟩ : ∃ x2, x2 = leN (shF f 1) 2 := ⟨_, rfl⟩
  obtain ⟨x3, hx3⟩ : ∃ x3, x3 = leN (shF (shF f 1) 2) 1 := ⟨_, rfl⟩
  rw [← hx1, ← hx2, ← hx3]
  replace hx1 := hideit hx1
  replace hx2 := hideit hx2
  replace hx3 := hideit hx3
  go_enter Tryd.func56, Tryd.ntmps56
  go_upto_region 0 with (fail)
  refine wp_region_lit ?_
  refine wpList_to rfl (.pointer (some ⟨w.heap.size, 0, none⟩)) (w.alloc (.cells (row 3 (pav 0 0 0)).toArray 24)) (exec_alloc 24 _ rfl (zeroP w)) ?_
  simp only [Act.put, List.setIfInBounds_toArray, List.set_cons_zero, List.set_cons_succ]
  generalize w.alloc (.cells (row 3 (pav 0 0 0)).toArray 24) = w1 at *
  obtain ⟨q, hq⟩ : ∃ q, q = w.heap.size := ⟨_, rfl⟩
  have hwq : Hid (w.heap.size ≤ q) := hideit (by omega)
  have hrq : Hid (r < q) := hideit (by omega)
  rw [← hq] at Q1 ⊢
  clear hq hrw
  go_upto_region 1 with (fail)
  have S2 := hideit (RowAt.new w1 3 (pav 0 0 0) 24)
  have hE2 : Ext w1 (w1.alloc (.cells (row 3 (pav 0 0 0)).toArray 24)) := (Below.refl _ _).alloc (Nat.le_refl _) _
  have Q2 := hideit (Q1.out.carry hE2)
  have R2 := hideit (R1.out.ext hE2)
  have B2 := hideit (B1.out.ext hE2)
  refine wp_region_lit ?_
  refine wpList_to rfl (.pointer (some ⟨w1.heap.size, 0, none⟩)) (w1.alloc (.cells (row 3 (pav 0 0 0)).toArray 24)) (exec_alloc 24 _ rfl (zeroP w1)) ?_
  simp only [Act.put, List.setIfInBounds_toArray, List.set_cons_zero, List.set_cons_succ]
  generalize w1.alloc (.cells (row 3 (pav 0 0 0)).toArray 24) = w2 at *
  obtain ⟨s, hs⟩ : ∃ s, s = w1.heap.size := ⟨_, rfl⟩
  have hqs : Hid (q < s) := hideit (by rw [hs]; exact Q1.out.2.2)
  have hrs : Hid (r < s) := hideit (by have := hrq.out; have := hqs.out; omega)
  have hws : Hid (w.heap.size ≤ s) := hideit (by have := hwq.out; have := hqs.out; omega)
  rw [← hs] at S2 ⊢
  clear hs Q1 R1 B1 hE2
  replace hlo := hideit hlo
  replace hn := hideit hn
  have k := hideit (get_int lo r (l) 1 (f) w2 R2.out (by have := hn.out; omega) (by decide) (by decide))
  rw [← hx1.out] at k
  go_upto_region 3 with (go_at_call 55; refine k.out.mono ?_; rintro e w3 ⟨rfl, R3, B3⟩; have S3 := hideit (S2.out.but B3 (by have := hrs.out; omega)); have Q3 := hideit (Q2.out.but B3 (by have := hrq.out; omega)); replace R3 := hideit R3; replace B3 := hideit (B2.out.trans B3); have e0 : w3.cell? ⟨s, 0, none⟩ = some (.int .i64 0) := S3.out.1 0 (by decide); have e1 : w3.frozen? ⟨s, 0, none⟩ = false := S3.out.2.1 0 (by decide); clear k S2 Q2 R2 B2)
  have S30 := hideit ((S3.out.set 0 (.int .i64 (x1.toNat : Int))).congr (g' := pav (x1.toNat : Int) 0 0) fun j hj => by rcases (by omega : j = 0 ∨ j = 1 ∨ j = 2) with rfl | rfl | rfl <;> rfl)
  have Q30 := hideit (Q3.out.but (but_setCell w3 s 0 (.int .i64 (x1.toNat : Int))) (by have := hqs.out; omega))
  have R30 := hideit (R3.out.setc hrs.out hlo.out 0 (.int .i64 (x1.toNat : Int)))
  have B30 := hideit (but_newc B3.out hws.out (.int .i64 (x1.toNat : Int)) 0)
  clear e0 e1 S3 Q3 R3 B3
  generalize w3.setCell ⟨s, 0, none⟩ (.int .i64 (x1.toNat : Int)) = w30 at *
  have k := hideit (get_int lo r (l - 1) 2 (shF f 1) w30 R30.out (by have := hn.out; omega) (by decide) (by decide))
  rw [← hx2.out] at k
  go_upto_region 4 with (go_at_call 55; refine k.out.mono ?_; rintro e w31 ⟨rfl, R31, B31⟩; have S31 := hideit (S30.out.but B31 (by have := hrs.out; omega)); have Q31 := hideit (Q30.out.but B31 (by have := hrq.out; omega)); replace R31 := hideit R31; replace B31 := hideit (B30.out.trans B31); have e0 : w31.cell? ⟨s, 1, none⟩ = some (.int .i64 0) := S31.out.1 1 (by decide); have e1 : w31.frozen? ⟨s, 1, none⟩ = false := S31.out.2.1 1 (by decide); clear k S30 Q30 R30 B30)
  have S310 := hideit ((S31.out.set 1 (.int .i64 (x2.toNat : Int))).congr (g' := pav (x1.toNat : Int) (x2.toNat : Int) 0) fun j hj => by rcases (by omega : j = 0 ∨ j = 1 ∨ j = 2) with rfl | rfl | rfl <;> rfl)
  have Q310 := hideit (Q31.out.but (but_setCell w31 s 1 (.int .i64 (x2.toNat : Int))) (by have := hqs.out; omega))
  have R310 := hideit (R31.out.setc hrs.out hlo.out 1 (.int .i64 (x2.toNat : Int)))
  have B310 := hideit (but_newc B31.out hws.out (.int .i64 (x2.toNat : Int)) 1)
  clear e0 e1 S31 Q31 R31 B31
  generalize w31.setCell ⟨s, 1, none⟩ (.int .i64 (x2.toNat : Int)) = w310 at *
  have k := hideit (get_int lo r (l - 1 - 2) 1 (shF (shF f 1) 2) w310 R310.out (by have := hn.out; omega) (by decide) (by decide))
  rw [← hx3.out] at k
  go_upto_region 5 with (go_at_call 55; refine k.out.mono ?_; rintro e w311 ⟨rfl, R311, B311⟩; have S311 := hideit (S310.out.but B311 (by have := hrs.out; omega)); have Q311 := hideit (Q310.out.but B311 (by have := hrq.out; omega)); replace R311 := hideit R311; replace B311 := hideit (B310.out.trans B311); have e0 : w311.cell? ⟨s, 2, none⟩ = some (.int .i64 0) := S311.out.1 2 (by decide); have e1 : w311.frozen? ⟨s, 2, none⟩ = false := S311.out.2.1 2 (by decide); clear k S310 Q310 R310 B310)
  have S3110 := hideit ((S311.out.set 2 (.int .i64 (x3.toNat : Int))).congr (g' := pav (x1.toNat : Int) (x2.toNat : Int) (x3.toNat : Int)) fun j hj => by rcases (by omega : j = 0 ∨ j = 1 ∨ j = 2) with rfl | rfl | rfl <;> rfl)
  have Q3110 := hideit (Q311.out.but (but_setCell w311 s 2 (.int .i64 (x3.toNat : Int))) (by have := hqs.out; omega))
  have R3110 := hideit (R311.out.setc hrs.out hlo.out 2 (.int .i64 (x3.toNat : Int)))
  have B3110 := hideit (but_newc B311.out hws.out (.int .i64 (x3.toNat : Int)) 2)
  clear e0 e1 S311 Q311 R311 B311
  generalize w311.setCell ⟨s, 2, none⟩ (.int .i64 (x3.toNat : Int)) = w3110 at *
  refine wp_region_lit ?_
  refine wpList_load_mid rfl 24 (.tmp 3) rfl s 0 rfl (row 3 (pav (x1.toNat : Int) (x2.toNat : Int) (x3.toNat : Int))) _ S3110.out.range Tryd.underlying24 rfl (by rw [row_length]; exact infoP) ?_
  simp only [Act.put, List.setIfInBounds_toArray, List.set_cons_zero, List.set_cons_succ]
  refine wpList_store_mid rfl 24 (.tmp 2) (.tmp 13) rfl q 0 (row 3 (pav (x1.toNat : Int) (x2.toNat : Int) (x3.toNat : Int))).toArray rfl rfl (by rw [row_size]; exact Q3110.out.there) (by rw [row_size]; exact infoP) (row_one fun j _ => by unfold pav; split <;> (try split) <;> rfl) ?_
  rw [show (row 3 (pav (x1.toNat : Int) (x2.toNat : Int) (x3.toNat : Int))).toArray.toList = row 3 (pav (x1.toNat : Int) (x2.toNat : Int) (x3.toNat : Int)) from rfl]
  have h9 : Hid (RowAt q 3 (pav (x1.toNat : Int) (x2.toNat : Int) (x3.toNat : Int)) (w3110.setCells q 0 (row 3 (pav (x1.toNat : Int) (x2.toNat : Int) (x3.toNat : Int))))) := hideit Q3110.out.cells
  have R9 := hideit (R3110.out.set (o := 0) hrq.out hlo.out (row 3 (pav (x1.toNat : Int) (x2.toNat : Int) (x3.toNat : Int))))
  have B9 := hideit (but_new (o := 0) B3110.out hwq.out (row 3 (pav (x1.toNat : Int) (x2.toNat : Int) (x3.toNat : Int))))
  generalize w3110.setCells q 0 (row 3 (pav (x1.toNat : Int) (x2.toNat : Int) (x3.toNat : Int))) = w9 at *
  clear S3110 Q3110 R3110 B3110
  simp only [Act.put]
  go_wp2
  exact bodyPost_ret (ret_row Tryd.results56 rfl h9.out Tryd.underlying24 rfl infoP) rfl ⟨rfl, R9.out, B9.out⟩
end Go.Proofs.YtenlokmoijeehaaDoor
namespace Go.Proofs.YtenlokmoijeehaaDoor
open Go.RowKit
section
variable {P : Program} {ops : Array Oper} {W : World} {Q : Exit → Act → World → Prop} {C : World → Prop}
/-- in a frame, in every world of the class, the operation yields v and leaves the world -/
def StrC (P : Program) (ops : Array Oper) (C : World → Prop) (o : Oper) (v : Value) (a : Act) : Prop :=
  (Region.wanted o (yielded ops a.tmps) = true ∧ ∀ w, C w → (execOp a.eval o).run P w = .ok (.value v) w) ∨ (Region.wanted o (yielded ops a.tmps) = false ∧ v = undef)
theorem StrC.put {o : Oper} {v u : Value} {a : Act} {d : Option Tmp} (hs : ∀ cs b, o.op ≠ .select cs b) (h : ∀ t, d = some t → t ∉ o.looksAt ops) : StrC P ops C o v (a.put d u) ↔ StrC P ops C o v a := by
  unfold StrC
  rw [execOp_put (ops := ops) o hs a d u h, wanted_put o a d u h]
theorem StrC.wpOp {i : Nat} {o : Oper} {v : Value} {a : Act} {w : World} {K : Act → World → Prop} (hi : ops[i]? = some o) (hC : C w) (hy : StrC P ops C o v a) (hK : K (a.put o.dst v) w) : wpOp P ops Q i K a w := by
  unfold Go.wpOp
  rw [hi]
  rcases hy with ⟨h1, h2⟩ | ⟨h1, rfl⟩
  · simp only [h1, if_true]
    refine .inl ?_
    unfold Oper.wp
    rw [h2 w hC]
    exact hK
  · simp only [h1, Bool.false_eq_true, if_false]
    exact hK
/-- an operation whose run is known -/
def PlainY (P : Program) (ops : Array Oper) (o : Oper) (v : Value) (w w' : World) (a : Act) : Prop :=
  Region.wanted o (yielded ops a.tmps) = true ∧ ((execOp a.eval o).run P w = .ok (.value v) w' ∨ ((execOp a.eval o).run P w = .ok .skip w' ∧ v = undef))
theorem PlainY.put {o : Oper} {v u : Value} {w w' : World} {a : Act} {d : Option Tmp} (hs : ∀ cs b, o.op ≠ .select cs b) (h : ∀ t, d = some t → t ∉ o.looksAt ops) : PlainY P ops o v w w' (a.put d u) ↔ PlainY P ops o v w w' a := by
  unfold PlainY
  rw [execOp_put (ops := ops) o hs a d u h, wanted_put o a d u h]
theorem PlainY.wpOp {i : Nat} {o : Oper} {v : Value} {a : Act} {w w' : World} {K : Act → World → Prop} (hi : ops[i]? = some o) (hy : PlainY P ops o v w w' a) (hK : K (a.put o.dst v) w') : wpOp P ops Q i K a w := by
  unfold Go.wpOp
  rw [hi]
  obtain ⟨h1, h2⟩ := hy
  simp only [h1, if_true]
  refine .inl ?_
  unfold Oper.wp
  rcases h2 with h2 | ⟨h2, rfl⟩
  · rw [h2]; exact hK
  · rw [h2]; exact hK
def wpF (P : Program) (ops : Array Oper) (C : World → Prop) (E : Act → Prop) : List Nat → Act → Prop
  | [], a => E a
  | i :: r, a => ∃ o v, ops[i]? = some o ∧ StrC P ops C o v a ∧ wpF P ops C E r (a.put o.dst v)
theorem wpF_nil {E : Act → Prop} {a : Act} (h : E a) : wpF P ops C E [] a := h
theorem wpF_one {E : Act → Prop} {a : Act} {i : Nat} {r : List Nat} (o : Oper) (v : Value) (ho : ops[i]? = some o) (hw : Region.wanted o (yielded ops a.tmps) = true) (hr : ∀ w, C w → (execOp a.eval o).run P w = .ok (.value v) w) (h : wpF P ops C E r (a.put o.dst v)) : wpF P ops C E (i :: r) a := ⟨o, v, ho, .inl ⟨hw, hr⟩, h⟩
theorem wpF_mono {E E' : Act → Prop} (h : ∀ a, E a → E' a) : ∀ (l : List Nat) (a : Act), wpF P ops C E l a → wpF P ops C E' l a
  | [], _, hh => h _ hh
  | _ :: r, _, ⟨o, v, h1, h2, h3⟩ => ⟨o, v, h1, h2, wpF_mono h r _ h3⟩
theorem wpF_take {E : Act → Prop} (hsel : ∀ (j : Nat) (o : Oper) cs b, ops[j]? = some o → o.op ≠ .select cs b) {i : Nat} {o : Oper} (hi : ops[i]? = some o) (r2 : List Nat) : ∀ (r1 : List Nat) (a : Act), (∀ k ∈ r1, ∀ ok, ops[k]? = some ok → ok.apart ops o = true) →
    wpF P ops C E (r1 ++ i :: r2) a → ∃ v, StrC P ops C o v a ∧ wpF P ops C E (r1 ++ r2) (a.put o.dst v)
  | [], a, _, ⟨o', v, h1, h2, h3⟩ => by
    rw [hi] at h1
    injection h1 with h1
    subst h1
    exact ⟨v, h2, h3⟩
  | k :: r1, a, hap, ⟨ok, vk, h1, h2, h3⟩ => by
    obtain ⟨p1, p2, p3⟩ := Oper.apart_spec (hap k List.mem_cons_self ok h1)
    obtain ⟨v, g1, g2⟩ := wpF_take hsel hi r2 r1 _ (fun k' hk' => hap k' (List.mem_cons_of_mem _ hk')) h3
    refine ⟨v, (StrC.put (fun cs b => hsel i o cs b hi) p1).1 g1, ok, vk, h1, (StrC.put (fun cs b => hsel k ok cs b h1) p3).2 h2, ?_⟩
    rw [← Act.put_comm a vk v p2]
    exact g2
theorem wpSF_take {E : Act → Prop} (hsel : ∀ (j : Nat) (o : Oper) cs b, ops[j]? = some o → o.op ≠ .select cs b) {i : Nat} {o : Oper} (hi : ops[i]? = some o) (s1 s2 : List Nat) (hs1 : ∀ k ∈ s1, ∀ ok, ops[k]? = some ok → ok.apart ops o = true) : ∀ (r : List Nat) (a : Act), (∀ k ∈ r, ∀ ok, ops[k]? = some ok → ok.apart ops o = true) →
    wpS P ops W (fun A => wpF P ops C E (s1 ++ i :: s2) A) r a → ∃ v, StrC P ops C o v a ∧ wpS P ops W (fun A => wpF P ops C E (s1 ++ s2) A) r (a.put o.dst v)
  | [], a, _, h => wpF_take hsel hi s2 s1 a hs1 h
  | k :: r, a, hap, ⟨ok, vk, h1, h2, h3⟩ => by
    obtain ⟨p1, p2, p3⟩ := Oper.apart_spec (hap k List.mem_cons_self ok h1)
    obtain ⟨v, g1, g2⟩ := wpSF_take hsel hi s1 s2 hs1 r _ (fun k' hk' => hap k' (List.mem_cons_of_mem _ hk')) h3
    refine ⟨v, (StrC.put (fun cs b => hsel i o cs b hi) p1).1 g1, ok, vk, h1, (StrongY.put (fun cs b => hsel k ok cs b h1) p3).2 h2, ?_⟩
    rw [← Act.put_comm a vk v p2]
    exact g2
def wpL (P : Program) (ops : Array Oper) (C : World → Prop) (Q : Exit → Act → World → Prop) : List Nat → Act → World → Prop
  | [], a, w => Q .normal a w
  | i :: r, a, w => ∃ o v w', ops[i]? = some o ∧ PlainY P ops o v w w' a ∧ C w' ∧ wpL P ops C Q r (a.put o.dst v) w'
theorem wpL_nil {a : Act} {w : World} (h : Q .normal a w) : wpL P ops C Q [] a w := h
theorem wpL_val {i : Nat} {r : List Nat} {a : Act} {w : World} (o : Oper) (v : Value) (ho : ops[i]? = some o) (hw : Region.wanted o (yielded ops a.tmps) = true) (hr : (execOp a.eval o).run P w = .ok (.value v) w) (hC : C w) (h : wpL P ops C Q r (a.put o.dst v) w) : wpL P ops C Q (i :: r) a w := ⟨o, v, w, ho, ⟨hw, .inl hr⟩, hC, h⟩
theorem wpL_skip {i : Nat} {r : List Nat} {a : Act} {w : World} (o : Oper) (w' : World) (ho : ops[i]? = some o) (hw : Region.wanted o (yielded ops a.tmps) = true) (hr : (execOp a.eval o).run P w = .ok .skip w') (hC : C w') (h : wpL P ops C Q r (a.put o.dst undef) w') : wpL P ops C Q (i :: r) a w := ⟨o, undef, w', ho, ⟨hw, .inr ⟨hr, rfl⟩⟩, hC, h⟩
theorem wpFL_take (hsel : ∀ (j : Nat) (o : Oper) cs b, ops[j]? = some o → o.op ≠ .select cs b) {i : Nat} {o : Oper} (hi : ops[i]? = some o) (rest : List Nat) (X : World) : ∀ (r : List Nat) (a : Act), (∀ k ∈ r, ∀ ok, ops[k]? = some ok → ok.apart ops o = true) →
    wpF P ops C (fun A => wpL P ops C Q (i :: rest) A X) r a → ∃ v w', PlainY P ops o v X w' a ∧ C w' ∧ wpF P ops C (fun A => wpL P ops C Q rest A w') r (a.put o.dst v)
  | [], a, _, ⟨o', v, w', h1, h2, h3, h4⟩ => by
    rw [hi] at h1
    injection h1 with h1
    subst h1
    exact ⟨v, w', h2, h3, h4⟩
  | k :: r, a, hap, ⟨ok, vk, h1, h2, h3⟩ => by
    obtain ⟨p1, p2, p3⟩ := Oper.apart_spec (hap k List.mem_cons_self ok h1)
    obtain ⟨v, w', g1, g2, g3⟩ := wpFL_take hsel hi rest X r _ (fun k' hk' => hap k' (List.mem_cons_of_mem _ hk')) h3
    refine ⟨v, w', (PlainY.put (fun cs b => hsel i o cs b hi) p1).1 g1, g2, ok, vk, h1, (StrC.put (fun cs b => hsel k ok cs b h1) p3).2 h2, ?_⟩
    rw [← Act.put_comm a vk v p2]
    exact g3
structure FloAt (P : Program) (ops : Array Oper) (W : World) (Q : Exit → Act → World → Prop) (C : World → Prop) (ql fl ll : List Nat) (L : Array Bool) (A : Act) (w : World) : Prop where
  size : L.size = ops.size
  closed : Closed ops L
  way : ((∀ i ∈ ll, L.getD i false = false) ∧ Ext W w ∧ wpS P ops W (fun A' => wpF P ops C (fun A'' => ∀ w', Ext W w' → wpL P ops C Q ll A'' w') (lf L fl) A') (lf L ql) A) ∨
    ((∀ k ∈ ql, L.getD k false = true) ∧ C w ∧ ∃ l1 l2, ll = l1 ++ l2 ∧ (∀ k ∈ l1, L.getD k false = true) ∧ (∀ k ∈ l2, L.getD k false = false) ∧ wpF P ops C (fun A'' => wpL P ops C Q l2 A'' w) (lf L fl) A)
theorem wp_region_flo {id : Nat} {a : Act} {w : World} (C : World → Prop) (hC0 : ∀ X, Ext w.drew X → C X) (ql fl ll : List Nat) (qlo : List Oper) (hmo : P.follows .mixedOrders = true) (hB : textB ops = true) (hne : ll ≠ []) (hql : ql.map (ops[·]?) = qlo.map some)
    (hnd : (ql ++ fl ++ ll).Nodup) (hcov0 : ∀ i ∈ List.range ops.size, i ∈ ql ++ fl ++ ll) (hin : ∀ i ∈ ql ++ fl ++ ll, i < ops.size) (hq : ql.Pairwise (fun k j => edgeB ops k j = true)) (hf : fl.Pairwise (fun k j => edgeB ops k j = true)) (hqf : ∀ j ∈ fl, ∀ k ∈ ql, edgeB ops k j = true)
    (hl1 : ∀ j ∈ ll, ∀ k ∈ ql, waits ops ops.size j k = true) (hfl : ∀ j ∈ ll, ∀ k ∈ fl, edgeB ops k j = true) (hl2 : ll.Pairwise (fun k j => waits ops ops.size j k = true))
    (h : wpStrong P ops w.drew (fun A => wpF P ops C (fun A'' => ∀ w', Ext w.drew w' → wpL P ops C Q ll A'' w') fl A) qlo a) : (Code.region id ops true).wp P Q a w := by
  obtain ⟨hsel, htx⟩ := textB_spec hB
  obtain ⟨nqf, nl, ndis⟩ := List.nodup_append.1 hnd
  obtain ⟨nq, nf, ndf⟩ := List.nodup_append.1 nqf
  have lq : ∀ i ∈ ll, i ∉ ql ++ fl := fun i hi e => ndis i e i hi rfl
  refine wp_region_inv (I := fun L A X => FloAt P ops w.drew Q C ql fl ll L A X) hmo ?h0 ?hs ?he
  case h0 =>
    have hf0 : ∀ k d, k < ops.size → (Array.replicate ops.size false).getD k d = false := fun k d hk => by unfold Array.getD; simp [hk]
    refine ⟨by simp, ?_, .inl ⟨fun i hi => hf0 i _ (hin i (by simp [hi])), Ext.refl _, ?_⟩⟩
    · intro i o ho hi
      rw [hf0 i _ (Array.getElem?_eq_some_iff.1 ho).1] at hi
      cases hi
    · rw [lf_all fun k hk => hf0 k _ (hin k (by simp [hk])), lf_all fun k hk => hf0 k _ (hin k (by simp [hk]))]
      exact wpS_of_list ql qlo a hql h
  case hs =>
    intro L A X i o hI ho hl hdeps
    have hil : i < ops.size := (Array.getElem?_eq_some_iff.1 ho).1
    have hiL : i < L.size := by rw [hI.size]; exact hil
    have hlf := getD_flip hl
    have hsize : (L.setIfInBounds i true).size = ops.size := by simp [hI.size]
    have hclosed := hI.closed.step ho hdeps
    have hcov : i ∈ ql ++ fl ++ ll := hcov0 i (by simpa using hil)
    have hap : ∀ k, edgeB ops k i = true → L.getD k true = false → ∀ ok, ops[k]? = some ok → ok.apart ops o = true := by
      intro k hed hk ok hok
      rcases edgeB_spec ho hok hed with ⟨e, he, hbe, rfl⟩ | h2
      · have h3 := hdeps e he hbe
        rw [getD_flip hk] at h3
        cases h3
      · exact h2
    have hwt : ∀ k, waits ops ops.size i k = true → L.getD k false = true := fun k hk => waits_listed hI.closed _ i k o ho hdeps hk
    have keep : ∀ k d, i ≠ k → (L.setIfInBounds i true).getD k d = L.getD k d := fun k d hk => getD_set_ne d hk
    have hfl0 : ∀ k, k < ops.size → L.getD k false = L.getD k true := fun k hk => getD_flip' (by rw [hI.size]; exact hk)
    have late : ∀ (l1 l2 : List Nat), ll = l1 ++ l2 → i ∈ l2 → (∀ k ∈ l1, L.getD k false = true) → (∀ k ∈ l2, L.getD k false = false) → (∀ k ∈ ql, L.getD k false = true) → wpF P ops C (fun A'' => wpL P ops C Q l2 A'' X) (lf L fl) A →
        wpOp P ops Q i (fun A X => FloAt P ops w.drew Q C ql fl ll (L.setIfInBounds i true) A X) A X := by
      intro l1 l2 e1 hi2 e2 e3 hqd hw
      have hill : i ∈ ll := by rw [e1]; simp [hi2]
      cases hl2' : l2 with
      | nil => rw [hl2'] at hi2; cases hi2
      | cons j l3 =>
        have hl2'' := hl2
        have nl' := nl
        rw [e1, hl2'] at hl2'' nl'
        rw [hl2'] at hi2 e3 hw
        have hij : i = j := by
          rcases List.mem_cons.1 hi2 with rfl | h2
          · rfl
          · have := hwt j ((List.pairwise_cons.1 (List.pairwise_append.1 hl2'').2.1).1 i h2)
            rw [e3 j List.mem_cons_self] at this
            cases this
        subst hij
        obtain ⟨_, nl2, nl3⟩ := List.nodup_append.1 nl'
        obtain ⟨v, w', g1, g2, g3⟩ := wpFL_take hsel ho l3 X (lf L fl) A (fun k hk => by
          obtain ⟨k1, k2⟩ := List.mem_filter.1 hk
          exact hap k (hfl i hill k k1) (by simpa using k2)) hw
        refine PlainY.wpOp ho g1 ⟨hsize, hclosed, .inr ⟨fun k hk => ?_, g2, l1 ++ [i], l3, by rw [e1, hl2']; simp, fun k hk => ?_, fun k hk => ?_, ?_⟩⟩
        · rw [keep k _ (fun e => lq i hill (by rw [e]; simp [hk]))]; exact hqd k hk
        · rcases List.mem_append.1 hk with h2 | h2
          · rw [keep k _ (fun e => nl3 k h2 i List.mem_cons_self e.symm)]; exact e2 k h2
          · obtain rfl : k = i := by simpa using h2
            exact getD_same hiL
        · rw [keep k _ (fun e => (List.nodup_cons.1 nl2).1 (e ▸ hk))]
          exact e3 k (List.mem_cons_of_mem _ hk)
        · rw [lf_other (l := fl) fun h2 => lq i hill (by simp [h2])]
          exact g3
    rcases hI.way with ⟨w2, hX, hw⟩ | ⟨w2, hCX, l1, l2, e1, e2, e3, hw⟩
    · rcases List.mem_append.1 hcov with hiqf | hill
      · have hll0 : ∀ k ∈ ll, (L.setIfInBounds i true).getD k false = false := fun k hk => by
          rw [keep k _ (fun e => lq k hk (e ▸ hiqf))]; exact w2 k hk
        rcases List.mem_append.1 hiqf with hiq | hif
        · obtain ⟨r1, r2, s1, s2, s3⟩ := lf_split nq hq hiq hl
          rw [s1] at hw
          obtain ⟨v, hv, hr⟩ := wpS_take hsel ho r2 r1 A (fun k hk => hap k (s3 k hk).1 (s3 k hk).2) hw
          refine StrongY.wpOp ho hX hv fun w' hw' => ⟨hsize, hclosed, .inl ⟨hll0, hX.trans hw', ?_⟩⟩
          rw [s2, lf_other (l := fl) fun h2 => ndf i hiq i h2 rfl]
          exact hr
        · obtain ⟨r1, r2, s1, s2, s3⟩ := lf_split nf hf hif hl
          rw [s1] at hw
          obtain ⟨v, hv, hr⟩ := wpSF_take hsel ho r1 r2 (fun k hk => hap k (s3 k hk).1 (s3 k hk).2) (lf L ql) A (fun k hk => by
            obtain ⟨k1, k2⟩ := List.mem_filter.1 hk
            exact hap k (hqf i hif k k1) (by simpa using k2)) hw
          refine StrC.wpOp ho (hC0 X hX) hv ⟨hsize, hclosed, .inl ⟨hll0, hX, ?_⟩⟩
          rw [s2, lf_other (l := ql) fun h2 => ndf i h2 i hif rfl]
          exact hr
      · have hqd : ∀ k ∈ ql, L.getD k false = true := fun k hk => hwt k (hl1 i hill k hk)
        rw [lf_nil (l := ql) fun k hk => by rw [← hfl0 k (hin k (by simp [hk]))]; exact hqd k hk] at hw
        exact late [] ll rfl hill (fun k hk => by cases hk) w2 hqd (wpF_mono (fun A'' hh => hh X hX) _ _ hw)
    · rcases List.mem_append.1 hcov with hiqf | hill
      · rcases List.mem_append.1 hiqf with hiq | hif
        · rw [w2 i hiq] at hlf; cases hlf
        · obtain ⟨r1, r2, s1, s2, s3⟩ := lf_split nf hf hif hl
          rw [s1] at hw
          obtain ⟨v, hv, hr⟩ := wpF_take hsel ho r2 r1 A (fun k hk => hap k (s3 k hk).1 (s3 k hk).2) hw
          refine StrC.wpOp ho hCX hv ⟨hsize, hclosed, .inr ⟨fun k hk => ?_, hCX, l1, l2, e1, fun k hk => ?_, fun k hk => ?_, ?_⟩⟩
          · rw [keep k _ (fun e => ndf k hk i hif e.symm)]; exact w2 k hk
          · rw [keep k _ (fun e => lq k (by rw [e1]; simp [hk]) (e ▸ hiqf))]; exact e2 k hk
          · rw [keep k _ (fun e => lq k (by rw [e1]; simp [hk]) (e ▸ hiqf))]; exact e3 k hk
          · rw [s2]; exact hr
      · have hi2 : i ∈ l2 := by
          rw [e1] at hill
          rcases List.mem_append.1 hill with h2 | h2
          · rw [e2 i h2] at hlf; cases hlf
          · exact h2
        exact late l1 l2 e1 hi2 e2 e3 w2 hw
  case he =>
    intro L A X hI hr
    have hall : ∀ n k, k < n → k < ops.size → L.getD k false = true := by
      intro n
      induction n with
      | zero => intro k hk; omega
      | succ n ih =>
        intro k hk hkn
        cases hv : L.getD k false with
        | true => rfl
        | false =>
          exfalso
          have ho : ops[k]? = some ops[k] := Array.getElem?_eq_getElem hkn
          have hmem : k ∈ Region.ready .any ops L := mem_ready.2 ⟨by rw [← getD_flip' (by rw [hI.size]; omega)]; exact hv, ops[k], ho, fun e he hbe => ih e.on (by have := htx k _ ho e he hbe; omega) (by have := htx k _ ho e he hbe; omega)⟩
          rw [hr] at hmem
          cases hmem
    have hk : ∀ k, k < ops.size → L.getD k false = true := fun k hk => hall (k + 1) k (by omega) hk
    rcases hI.way with ⟨w2, _⟩ | ⟨w2, hCX, l1, l2, e1, e2, e3, hw⟩
    · cases hll' : ll with
      | nil => exact absurd hll' hne
      | cons j l2 =>
        have := w2 j (by rw [hll']; exact List.mem_cons_self)
        rw [hk j (hin j (by rw [hll']; simp))] at this
        cases this
    · cases l2 with
      | nil =>
        rw [lf_nil (l := fl) fun k hk2 => by rw [← getD_flip' (by rw [hI.size]; exact hin k (by simp [hk2]))]; exact hk k (hin k (by simp [hk2]))] at hw
        exact hw
      | cons j l3 =>
        have := e3 j List.mem_cons_self
        rw [hk j (hin j (by rw [e1]; simp))] at this
        cases this
end
end Go.Proofs.YtenlokmoijeehaaDoor
namespace Go.Proofs.YtenlokmoijeehaaDoor
open Go.RowKit
section
variable {P : Program} {ops : Array Oper} {Q : Exit → Act → World → Prop}
def effUpon (P : Program) (R : Value → World → Prop) : Result Next → Prop
  | .ok (.value v) w' => R v w'
  | .ok .skip w' => R undef w'
  | .ok (.enter f args) w' => Calls P f args w' fun e w'' => ∃ v, e = .returned v ∧ R v w''
  | _ => False
/-- what an operation does in a frame, in one world -/
def EffY (P : Program) (ops : Array Oper) (o : Oper) (w : World) (R : Value → World → Prop) (a : Act) : Prop :=
  (Region.wanted o (yielded ops a.tmps) = true ∧ effUpon P R ((execOp a.eval o).run P w)) ∨ (Region.wanted o (yielded ops a.tmps) = false ∧ R undef w)
theorem effUpon_mono {R R' : Value → World → Prop} (h : ∀ v w, R v w → R' v w) : ∀ r : Result Next, effUpon P R r → effUpon P R' r
  | .ok (.value _) _, hh => h _ _ hh
  | .ok .skip _, hh => h _ _ hh
  | .ok (.enter _ _) _, hh => Calls.mono hh fun _ _ ⟨v, e, hr⟩ => ⟨v, e, h _ _ hr⟩
theorem EffY.mono {o : Oper} {w : World} {R R' : Value → World → Prop} {a : Act} (h : ∀ v w, R v w → R' v w) (hy : EffY P ops o w R a) : EffY P ops o w R' a := by
  rcases hy with ⟨h1, h2⟩ | ⟨h1, h2⟩
  · exact .inl ⟨h1, effUpon_mono h _ h2⟩
  · exact .inr ⟨h1, h _ _ h2⟩
theorem EffY.put {o : Oper} {w : World} {R : Value → World → Prop} {u : Value} {a : Act} {d : Option Tmp} (hs : ∀ cs b, o.op ≠ .select cs b) (h : ∀ t, d = some t → t ∉ o.looksAt ops) : EffY P ops o w R (a.put d u) ↔ EffY P ops o w R a := by
  unfold EffY
  rw [execOp_put (ops := ops) o hs a d u h, wanted_put o a d u h]
theorem EffY.wpOp {i : Nat} {o : Oper} {a : Act} {w : World} {R : Value → World → Prop} {K : Act → World → Prop} (hi : ops[i]? = some o) (hy : EffY P ops o w R a) (hK : ∀ v w', R v w' → K (a.put o.dst v) w') : wpOp P ops Q i K a w := by
  unfold Go.wpOp
  rw [hi]
  rcases hy with ⟨h1, h2⟩ | ⟨h1, h2⟩
  · simp only [h1, if_true]
    refine .inl ?_
    unfold Oper.wp
    generalize (execOp a.eval o).run P w = r at *
    cases r with
    | ok n w' =>
      cases n <;> simp only [effUpon] at h2 <;> simp only [Oper.upon]
      case value u => exact hK _ _ h2
      case skip => exact hK _ _ h2
      case enter f args => exact h2.mono fun e w'' ⟨v, he, hr⟩ => by subst he; exact hK _ _ hr
    | halt x w' => simp only [effUpon] at h2
  · simp only [h1, Bool.false_eq_true, if_false]
    exact hK _ _ h2
/-- the walk: (false, i) floats, (true, i) stands -/
def wpX (P : Program) (ops : Array Oper) (Q : Exit → Act → World → Prop) : List (Bool × Nat) → (World → Prop) → Act → World → Prop
  | [], _, a, w => Q .normal a w
  | (false, i) :: r, C, a, w => ∃ o v, ops[i]? = some o ∧ StrC P ops C o v a ∧ wpX P ops Q r C (a.put o.dst v) w
  | (true, i) :: r, C, a, w => ∃ o, ops[i]? = some o ∧ EffY P ops o w (fun v w' => ∃ C' : World → Prop, (∀ X, C' X → C X) ∧ C' w' ∧ wpX P ops Q r C' (a.put o.dst v) w') a
theorem StrC.mono {C C' : World → Prop} {o : Oper} {v : Value} {a : Act} (hy : StrC P ops C o v a) (h : ∀ X, C' X → C X) : StrC P ops C' o v a := by
  rcases hy with ⟨h1, h2⟩ | h2
  · exact .inl ⟨h1, fun w hw => h2 w (h w hw)⟩
  · exact .inr h2
theorem wpX_float {C : World → Prop} (hsel : ∀ (j : Nat) (o : Oper) cs b, ops[j]? = some o → o.op ≠ .select cs b) {i : Nat} {o : Oper} (hi : ops[i]? = some o) (s2 : List (Bool × Nat)) {w : World} : ∀ (s1 : List (Bool × Nat)) (a : Act), (∀ p ∈ s1, p.1 = false ∧ ∀ ok, ops[p.2]? = some ok → ok.apart ops o = true) →
    wpX P ops Q (s1 ++ (false, i) :: s2) C a w → ∃ v, StrC P ops C o v a ∧ wpX P ops Q (s1 ++ s2) C (a.put o.dst v) w
  | [], a, _, ⟨o', v, h1, h2, h3⟩ => by
    rw [hi] at h1
    injection h1 with h1
    subst h1
    exact ⟨v, h2, h3⟩
  | (true, k) :: s1, a, hap, h => by have := (hap (true, k) List.mem_cons_self).1; cases this
  | (false, k) :: s1, a, hap, ⟨ok, vk, h1, h2, h3⟩ => by
    obtain ⟨p1, p2, p3⟩ := Oper.apart_spec ((hap (false, k) List.mem_cons_self).2 ok h1)
    obtain ⟨v, g1, g2⟩ := wpX_float hsel hi s2 s1 _ (fun k' hk' => hap k' (List.mem_cons_of_mem _ hk')) h3
    refine ⟨v, (StrC.put (fun cs b => hsel i o cs b hi) p1).1 g1, ok, vk, h1, (StrC.put (fun cs b => hsel k ok cs b h1) p3).2 h2, ?_⟩
    rw [← Act.put_comm a vk v p2]
    exact g2
theorem wpX_stand {C : World → Prop} (hsel : ∀ (j : Nat) (o : Oper) cs b, ops[j]? = some o → o.op ≠ .select cs b) {i : Nat} {o : Oper} (hi : ops[i]? = some o) (s2 : List (Bool × Nat)) {w : World} : ∀ (s1 : List (Bool × Nat)) (a : Act), (∀ p ∈ s1, p.1 = false ∧ ∀ ok, ops[p.2]? = some ok → ok.apart ops o = true) →
    wpX P ops Q (s1 ++ (true, i) :: s2) C a w → EffY P ops o w (fun v w' => ∃ C' : World → Prop, (∀ X, C' X → C X) ∧ C' w' ∧ wpX P ops Q (s1 ++ s2) C' (a.put o.dst v) w') a
  | [], a, _, ⟨o', h1, h2⟩ => by
    rw [hi] at h1
    injection h1 with h1
    subst h1
    exact h2
  | (true, k) :: s1, a, hap, h => by have := (hap (true, k) List.mem_cons_self).1; cases this
  | (false, k) :: s1, a, hap, ⟨ok, vk, h1, h2, h3⟩ => by
    obtain ⟨p1, p2, p3⟩ := Oper.apart_spec ((hap (false, k) List.mem_cons_self).2 ok h1)
    have g := wpX_stand hsel hi s2 s1 _ (fun k' hk' => hap k' (List.mem_cons_of_mem _ hk')) h3
    refine EffY.mono (fun v w' ⟨C', c1, c2, c3⟩ => ⟨C', c1, c2, ok, vk, h1, ((StrC.put (fun cs b => hsel k ok cs b h1) p3).2 h2).mono c1, ?_⟩) ((EffY.put (fun cs b => hsel i o cs b hi) p1).1 g)
    rw [← Act.put_comm a vk v p2]
    exact c3
def lfx (L : Array Bool) (l : List (Bool × Nat)) : List (Bool × Nat) := l.filter fun p => !L.getD p.2 true
theorem lfx_split {R : Bool × Nat → Bool × Nat → Prop} {L : Array Bool} {l : List (Bool × Nat)} {p : Bool × Nat} (hn : (l.map (·.2)).Nodup) (hp : l.Pairwise R) (hi : p ∈ l) (hL : L.getD p.2 true = false) :
    ∃ r1 r2, lfx L l = r1 ++ p :: r2 ∧ lfx (L.setIfInBounds p.2 true) l = r1 ++ r2 ∧ ∀ k ∈ r1, R k p ∧ L.getD k.2 true = false := by
  obtain ⟨s, t, rfl⟩ := List.append_of_mem hi
  rw [List.map_append, List.map_cons] at hn
  obtain ⟨_, n2, n3⟩ := List.nodup_append.1 hn
  have n4 := (List.nodup_cons.1 n2).1
  obtain ⟨_, _, q3⟩ := List.pairwise_append.1 hp
  have hne : ∀ k, k ≠ p.2 → (L.setIfInBounds p.2 true).getD k true = L.getD k true := fun k hk => getD_set_ne true (Ne.symm hk)
  have hself : (L.setIfInBounds p.2 true).getD p.2 true = true := by
    unfold Array.getD
    split
    · simp
    · rfl
  refine ⟨s.filter fun k => !L.getD k.2 true, t.filter fun k => !L.getD k.2 true, ?_, ?_, ?_⟩
  · unfold lfx
    rw [List.filter_append, List.filter_cons, if_pos (by simp [hL])]
  · unfold lfx
    rw [List.filter_append, List.filter_cons, if_neg (by simp [hself])]
    congr 1
    · exact List.filter_congr fun k hk => by rw [hne k.2 (n3 k.2 (List.mem_map_of_mem hk) p.2 List.mem_cons_self)]
    · exact List.filter_congr fun k hk => by rw [hne k.2 (fun e => n4 (e ▸ List.mem_map_of_mem hk))]
  · intro k hk
    obtain ⟨hk1, hk2⟩ := List.mem_filter.1 hk
    exact ⟨q3 k hk1 p List.mem_cons_self, by simpa using hk2⟩
/-- which of the first n operations wait for operation k -/
def reachA (ops : Array Oper) (k : Nat) : Nat → List Bool
  | 0 => []
  | n + 1 => reachA ops k n ++ [match ops[n]? with
    | some o => o.after.any fun e => Region.binds .any e && (e.on == k || (reachA ops k n).getD e.on false)
    | none => false]
theorem reachA_length (k : Nat) : ∀ n, (reachA ops k n).length = n
  | 0 => rfl
  | n + 1 => by simp [reachA, reachA_length k n]
theorem reachA_listed {L : Array Bool} (hC : Closed ops L) (k : Nat) : ∀ n j, (reachA ops k n).getD j false = true → L.getD j false = true → L.getD k false = true
  | 0, j, h, _ => by simp [reachA] at h
  | n + 1, j, h, hj => by
    by_cases hjn : j < n
    · refine reachA_listed hC k n j ?_ hj
      rw [List.getD_eq_getElem?_getD] at h ⊢
      rwa [reachA, List.getElem?_append_left (by rw [reachA_length]; exact hjn)] at h
    · by_cases hjn2 : j = n
      · subst hjn2
        rw [reachA, List.getD_eq_getElem?_getD, List.getElem?_append_right (by rw [reachA_length]; exact Nat.le_refl _), reachA_length] at h
        simp only [Nat.sub_self, List.getElem?_cons_zero, Option.getD_some] at h
        cases ho : ops[j]? with
        | none => rw [ho] at h; cases h
        | some o =>
          rw [ho] at h
          obtain ⟨e, he, h2⟩ := Array.any_eq_true'.1 h
          simp only [Bool.and_eq_true, Bool.or_eq_true, beq_iff_eq] at h2
          have h3 := hC j o ho hj e he h2.1
          rcases h2.2 with h4 | h4
          · rw [← h4]; exact h3
          · exact reachA_listed hC k j e.on h4 h3
      · rw [List.getD_eq_getElem?_getD, List.getElem?_eq_none (by rw [reachA_length]; omega)] at h
        cases h
def reachB (ops : Array Oper) (j k : Nat) : Bool := match ops[j]? with
  | some o => o.after.any fun e => Region.binds .any e && (e.on == k || (reachA ops k j).getD e.on false)
  | none => false
theorem reachB_listed {L : Array Bool} (hC : Closed ops L) (j k : Nat) (o : Oper) (ho : ops[j]? = some o) (hd : ∀ e ∈ o.after, Region.binds .any e = true → L.getD e.on false = true) (h : reachB ops j k = true) : L.getD k false = true := by
  unfold reachB at h
  rw [ho] at h
  obtain ⟨e, he, h2⟩ := Array.any_eq_true'.1 h
  simp only [Bool.and_eq_true, Bool.or_eq_true, beq_iff_eq] at h2
  have h3 := hd e he h2.1
  rcases h2.2 with h4 | h4
  · rw [← h4]; exact h3
  · exact reachA_listed hC k j e.on h4 h3
def ladB (ops : Array Oper) (p q : Bool × Nat) : Bool := if p.1 then reachB ops q.2 p.2 else edgeB ops p.2 q.2
structure LadAt (P : Program) (ops : Array Oper) (Q : Exit → Act → World → Prop) (l : List (Bool × Nat)) (L : Array Bool) (A : Act) (w : World) : Prop where
  size : L.size = ops.size
  closed : Closed ops L
  way : ∃ C : World → Prop, C w ∧ wpX P ops Q (lfx L l) C A w
theorem wp_region_lad {id : Nat} {a : Act} {w : World} (C : World → Prop) (l : List (Bool × Nat)) (hmo : P.follows .mixedOrders = true) (hB : textB ops = true) (hnd : (l.map (·.2)).Nodup) (hcov : ∀ i ∈ List.range ops.size, i ∈ l.map (·.2)) (hin : ∀ p ∈ l, p.2 < ops.size)
    (hp : l.Pairwise (fun p q => ladB ops p q = true)) (hC : C w.drew) (h : wpX P ops Q l C a w.drew) : (Code.region id ops true).wp P Q a w := by
  obtain ⟨hsel, htx⟩ := textB_spec hB
  refine wp_region_inv (I := fun L A X => LadAt P ops Q l L A X) hmo ?h0 ?hs ?he
  case h0 =>
    have hf0 : ∀ k d, k < ops.size → (Array.replicate ops.size false).getD k d = false := fun k d hk => by unfold Array.getD; simp [hk]
    refine ⟨by simp, ?_, C, hC, ?_⟩
    · intro i o ho hi
      rw [hf0 i _ (Array.getElem?_eq_some_iff.1 ho).1] at hi
      cases hi
    · rw [show lfx (Array.replicate ops.size false) l = l from List.filter_eq_self.2 fun p hpm => by simp [hf0 p.2 true (hin p hpm)]]
      exact h
  case hs =>
    intro L A X i o hI ho hl hdeps
    have hil : i < ops.size := (Array.getElem?_eq_some_iff.1 ho).1
    have hsize : (L.setIfInBounds i true).size = ops.size := by simp [hI.size]
    have hclosed := hI.closed.step ho hdeps
    have hap : ∀ k, edgeB ops k i = true → L.getD k true = false → ∀ ok, ops[k]? = some ok → ok.apart ops o = true := by
      intro k hed hk ok hok
      rcases edgeB_spec ho hok hed with ⟨e, he, hbe, rfl⟩ | h2
      · have h3 := hdeps e he hbe
        rw [getD_flip hk] at h3
        cases h3
      · exact h2
    have hwt : ∀ k, reachB ops i k = true → L.getD k false = true := fun k hk => reachB_listed hI.closed i k o ho hdeps hk
    obtain ⟨p, hpl, rfl⟩ := List.mem_map.1 (hcov i (by simpa using hil))
    obtain ⟨r1, r2, s1, s2, s3⟩ := lfx_split hnd hp hpl hl
    have hr1 : ∀ q ∈ r1, q.1 = false ∧ ∀ ok, ops[q.2]? = some ok → ok.apart ops o = true := by
      intro q hq
      obtain ⟨t1, t2⟩ := s3 q hq
      unfold ladB at t1
      cases hb : q.1 with
      | true =>
        rw [hb, if_pos rfl] at t1
        have := hwt _ t1
        rw [getD_flip t2] at this
        cases this
      | false =>
        rw [hb, if_neg (by simp)] at t1
        exact ⟨rfl, hap q.2 t1 t2⟩
    obtain ⟨C1, hC1, hw⟩ := hI.way
    rw [s1] at hw
    obtain ⟨b, i⟩ := p
    cases b with
    | false =>
      obtain ⟨v, g1, g2⟩ := wpX_float hsel ho r2 r1 A hr1 hw
      exact StrC.wpOp ho hC1 g1 ⟨hsize, hclosed, C1, hC1, by rw [s2]; exact g2⟩
    | true => exact EffY.wpOp ho (wpX_stand hsel ho r2 r1 A hr1 hw) fun v w' ⟨C', c1, c2, c3⟩ => ⟨hsize, hclosed, C', c2, by rw [s2]; exact c3⟩
  case he =>
    intro L A X hI hr
    have hall : ∀ n k, k < n → k < ops.size → L.getD k false = true := by
      intro n
      induction n with
      | zero => intro k hk; omega
      | succ n ih =>
        intro k hk hkn
        cases hv : L.getD k false with
        | true => rfl
        | false =>
          exfalso
          have ho : ops[k]? = some ops[k] := Array.getElem?_eq_getElem hkn
          have hmem : k ∈ Region.ready .any ops L := mem_ready.2 ⟨by rw [← getD_flip' (by rw [hI.size]; omega)]; exact hv, ops[k], ho, fun e he hbe => ih e.on (by have := htx k _ ho e he hbe; omega) (by have := htx k _ ho e he hbe; omega)⟩
          rw [hr] at hmem
          cases hmem
    obtain ⟨C1, hC1, hw⟩ := hI.way
    rw [show lfx L l = [] from List.filter_eq_nil_iff.2 fun p hpm => by
      have := hall (p.2 + 1) p.2 (by omega) (hin p hpm)
      rw [getD_flip' (by rw [hI.size]; exact hin p hpm)] at this
      simp [this]] at hw
    exact hw
theorem wpX_nil {C : World → Prop} {a : Act} {w : World} (h : Q .normal a w) : wpX P ops Q [] C a w := h
/-- a float -/
theorem wpX_f {C : World → Prop} {a : Act} {w : World} {i : Nat} {r : List (Bool × Nat)} (o : Oper) (v : Value) (ho : ops[i]? = some o) (hw : Region.wanted o (yielded ops a.tmps) = true) (hr : ∀ X, C X → (execOp a.eval o).run P X = .ok (.value v) X) (h : wpX P ops Q r C (a.put o.dst v) w) : wpX P ops Q ((false, i) :: r) C a w := ⟨o, v, ho, .inl ⟨hw, hr⟩, h⟩
theorem wpX_fskip {C : World → Prop} {a : Act} {w : World} {i : Nat} {r : List (Bool × Nat)} (o : Oper) (ho : ops[i]? = some o) (hw : Region.wanted o (yielded ops a.tmps) = false) (h : wpX P ops Q r C (a.put o.dst undef) w) : wpX P ops Q ((false, i) :: r) C a w := ⟨o, undef, ho, .inr ⟨hw, rfl⟩, h⟩
/-- a call -/
theorem wpX_call {C : World → Prop} {a : Act} {w : World} {i : Nat} {r : List (Bool × Nat)} (o : Oper) {f : FuncId} {args : Array Value} (ho : ops[i]? = some o) (hw : Region.wanted o (yielded ops a.tmps) = true) (hr : (execOp a.eval o).run P w = .ok (.enter f args) w)
    (hc : Calls P f args w fun e w' => ∃ v, e = .returned v ∧ ∃ C' : World → Prop, (∀ X, C' X → C X) ∧ C' w' ∧ wpX P ops Q r C' (a.put o.dst v) w') : wpX P ops Q ((true, i) :: r) C a w := ⟨o, ho, .inl ⟨hw, by rw [hr]; exact hc⟩⟩
/-- a plain operation that stands: its run is known -/
theorem wpX_to {C : World → Prop} {a : Act} {w : World} {i : Nat} {r : List (Bool × Nat)} (o : Oper) (v : Value) (w' : World) (ho : ops[i]? = some o) (hw : Region.wanted o (yielded ops a.tmps) = true) (hr : (execOp a.eval o).run P w = .ok (.value v) w') (C' : World → Prop) (h1 : ∀ X, C' X → C X) (h2 : C' w') (h : wpX P ops Q r C' (a.put o.dst v) w') : wpX P ops Q ((true, i) :: r) C a w := ⟨o, ho, .inl ⟨hw, by rw [hr]; exact ⟨C', h1, h2, h⟩⟩⟩
theorem wpX_st {C : World → Prop} {a : Act} {w : World} {i : Nat} {r : List (Bool × Nat)} (o : Oper) (w' : World) (ho : ops[i]? = some o) (hw : Region.wanted o (yielded ops a.tmps) = true) (hr : (execOp a.eval o).run P w = .ok .skip w') (C' : World → Prop) (h1 : ∀ X, C' X → C X) (h2 : C' w') (h : wpX P ops Q r C' (a.put o.dst undef) w') : wpX P ops Q ((true, i) :: r) C a w := ⟨o, ho, .inl ⟨hw, by rw [hr]; exact ⟨C', h1, h2, h⟩⟩⟩
end
end Go.Proofs.YtenlokmoijeehaaDoor
namespace Go.Proofs.YtenlokmoijeehaaDoor
open Go.RowKit Go.BigFrame
theorem exec_copy {P : Program} {w : World} {o : Oper} {a : Act} (d s : Operand) (dT sT : TypeId)
    (ho : o.op = .call { callee := .builtin .copy, args := #[d, s], argTypes := #[dT, sT] }) (elem : TypeId) (hu : P.underlying dT = some (.slice elem)) (hsz : (P.info? elem).map (·.size) = some 1)
    (b n : Nat) (g : Nat → Value) (hR : RowAt b n g w) (off dLen dCap : Nat) (ad : Addr) (sLen sCap : Nat) (hd : a.eval d = .slice (some ⟨b, off, none⟩) dLen dCap) (hs : a.eval s = .slice (some ad) sLen sCap)
    (m : Nat) (u : Nat → Value) (hn : m = Nat.min sLen dLen) (hsrc : ∀ j, j < m → w.cell? (ad.add j) = some (u j)) (hfit : off + m ≤ n) (h1 : ∀ j, j < m → (u j).oneCell' = true) : (execOp a.eval o).run P w = .ok (.value (goInt m)) (w.setCells b off (row m u)) := by
  have hrun := run_copy_cells (P := P) w dT sT o.type elem b off dLen dCap ad sLen sCap (row m u) hu hsz (by rw [row_length]; exact hn) (fun j v hv => by obtain ⟨hj, rfl⟩ := row_some hv; exact hsrc j hj)
    (fun j hj => by rw [row_length] at hj; rw [hR.1 (off + j) (by omega)]; rfl) (fun j hj => by rw [row_length] at hj; exact hR.2.1 (off + j) (by omega)) (fun v hv => by
      obtain ⟨j, hj, rfl⟩ := List.mem_map.1 hv
      exact h1 j (by simpa using hj))
  rw [row_length] at hrun
  simp [execOp, ho, resolve, invoke, builtin, hd, hs, hrun, Result.andThen]
theorem hdv_one (h : Hd) (j : Nat) : (hdv h j).oneCell' = true := by
  unfold hdv
  split
  · rfl
  · split
    · rfl
    · split
      · rfl
      · split
        · rfl
        · split
          · rfl
          · split
            · rfl
            · split
              · rfl
              · split <;> rfl
theorem cutR25 (X : World) (s : Nat) : Sem.run Tryd.prog (Instr.sliceAt 25 (.pointer (some ⟨s, 8, none⟩)) none none none) X = .ok (.slice (some ⟨s, 8, none⟩) 16 16) X := by simp [go_sem]
def zH : Hd := ⟨0#64, 0, 0, 0, 0, 0, 0, 0, fun _ => 0#8⟩
theorem zeroH (w : World) : (zeroValue 27).run Tryd.prog w = .ok (.agg (row 24 (hdv zH)).toArray) w := by kernel_rfl
set_option maxRecDepth 20000 in
set_option maxHeartbeats 2000000 in
theorem get_hd (lo r l : Nat) (f : Nat → BitVec 8) (w : World) (h : Rd lo r l f false w) (hlo : lo ≤ r) (hn : 36 ≤ l) (hl : l ≤ 140737488355328) (H : Hd)
    (hH : Hid (H = ⟨leN f 8, ((leN (shF f 8) 4).toNat : Int), ((leN (shF (shF f 8) 4) 1).toNat : Int), ((leN (shF (shF (shF f 8) 4) 1) 2).toNat : Int), ((leN (shF (shF (shF (shF f 8) 4) 1) 2) 1).toNat : Int), ((leN (shF (shF (shF (shF (shF f 8) 4) 1) 2) 1) 1).toNat : Int), ((leN (shF (shF (shF (shF (shF (shF f 8) 4) 1) 2) 1) 1) 2).toNat : Int), ((leN (shF (shF (shF (shF (shF (shF (shF f 8) 4) 1) 2) 1) 1) 2) 1).toNat : Int), shF (shF (shF (shF (shF (shF (shF (shF f 8) 4) 1) 2) 1) 1) 2) 1⟩)) :
    Calls Tryd.prog 39 #[.pointer (some ⟨r, 0, none⟩)] w fun e w' => e = .returned (.agg (row 24 (hdv H)).toArray) ∧ Rd lo r (l - 36) (shF (shF (shF (shF (shF (shF (shF (shF (shF f 8) 4) 1) 2) 1) 1) 2) 1) 16) false w' ∧ But r w w' := by
  have hrw := h.lt
  have Q1 := hideit (RowAt.new w 24 (hdv zH) 27)
  have hE1 : Ext w (w.alloc (.cells (row 24 (hdv zH)).toArray 27)) := (Below.refl _ _).alloc (Nat.le_refl _) _
  have R1 := hideit (h.ext hE1)
  have B1 := hideit (But.of_ext (c := r) hE1)
  clear h hE1
  go_enter Tryd.func39, Tryd.ntmps39
  go_upto_region 0 with (fail)
  refine wp_region_lit ?_
  refine wpList_to rfl (.pointer (some ⟨w.heap.size, 0, none⟩)) (w.alloc (.cells (row 24 (hdv zH)).toArray 27)) (exec_alloc 27 _ rfl (zeroH w)) ?_
  simp only [Act.put, List.setIfInBounds_toArray, List.set_cons_zero, List.set_cons_succ]
  generalize w.alloc (.cells (row 24 (hdv zH)).toArray 27) = w1 at *
  obtain ⟨q, hq⟩ : ∃ q, q = w.heap.size := ⟨_, rfl⟩
  have hwq : Hid (w.heap.size ≤ q) := hideit (by omega)
  have hrq : Hid (r < q) := hideit (by omega)
  rw [← hq] at Q1 ⊢
  clear hq hrw
  go_upto_region 1 with (fail)
  have S2 := hideit (RowAt.new w1 24 (hdv zH) 27)
  have hE2 : Ext w1 (w1.alloc (.cells (row 24 (hdv zH)).toArray 27)) := (Below.refl _ _).alloc (Nat.le_refl _) _
  have Q2 := hideit (Q1.out.carry hE2)
  have R2 := hideit (R1.out.ext hE2)
  have B2 := hideit (B1.out.ext hE2)
  refine wp_region_lit ?_
  refine wpList_to rfl (.pointer (some ⟨w1.heap.size, 0, none⟩)) (w1.alloc (.cells (row 24 (hdv zH)).toArray 27)) (exec_alloc 27 _ rfl (zeroH w1)) ?_
  simp only [Act.put, List.setIfInBounds_toArray, List.set_cons_zero, List.set_cons_succ]
  generalize w1.alloc (.cells (row 24 (hdv zH)).toArray 27) = w2 at *
  obtain ⟨s, hs⟩ : ∃ s, s = w1.heap.size := ⟨_, rfl⟩
  have hqs : Hid (q < s) := hideit (by rw [hs]; exact Q1.out.2.2)
  have hrs : Hid (r < s) := hideit (by have := hrq.out; have := hqs.out; omega)
  have hws : Hid (w.heap.size ≤ s) := hideit (by have := hwq.out; have := hqs.out; omega)
  rw [← hs] at S2 ⊢
  clear hs Q1 R1 B1 hE2
  replace hlo := hideit hlo
  replace hn := hideit hn
  replace hl := hideit hl
  change Hid (RowAt s 24 (hdv ⟨0#64, 0, 0, 0, 0, 0, 0, 0, fun _ => 0#8⟩) w2) at S2
  obtain ⟨y0, hy0⟩ : ∃ y, y = leN (f) 8 := ⟨_, rfl⟩
  replace hy0 := hideit hy0
  have k := hideit (get_u64 lo r (l) 8 (f) w2 R2.out (by have := hn.out; omega) (by decide) (by decide))
  rw [← hy0.out] at k
  go_upto_region 3 with (go_at_call 54; refine k.out.mono ?_; rintro e w3 ⟨rfl, R3, B3⟩; have S3 := hideit (S2.out.but B3 (by have := hrs.out; omega)); have Q3 := hideit (Q2.out.but B3 (by have := hrq.out; omega)); replace R3 := hideit R3; replace B3 := hideit (B2.out.trans B3); have e0 : w3.cell? ⟨s, 0, none⟩ = some (.int .u64 0) := S3.out.1 0 (by decide); have e1 : w3.frozen? ⟨s, 0, none⟩ = false := S3.out.2.1 0 (by decide); clear k S2 Q2 R2 B2)
  have S30 := hideit ((S3.out.set 0 (.int .u64 (y0.toNat : Int))).congr (g' := hdv ⟨y0, 0, 0, 0, 0, 0, 0, 0, fun _ => 0#8⟩) fun j hj => by
    unfold hdv
    by_cases h : j = 0
    · subst h; rfl
    · rw [if_neg h]; simp only [if_neg h])
  have Q30 := hideit (Q3.out.but (but_setCell w3 s 0 (.int .u64 (y0.toNat : Int))) (by have := hqs.out; omega))
  have R30 := hideit (R3.out.setc hrs.out hlo.out 0 (.int .u64 (y0.toNat : Int)))
  have B30 := hideit (but_newc B3.out hws.out (.int .u64 (y0.toNat : Int)) 0)
  clear e0 e1 S3 Q3 R3 B3
  generalize w3.setCell ⟨s, 0, none⟩ (.int .u64 (y0.toNat : Int)) = w30 at *
  obtain ⟨y1, hy1⟩ : ∃ y, y = leN (shF f 8) 4 := ⟨_, rfl⟩
  replace hy1 := hideit hy1
  have k := hideit (get_int lo r (l - 8) 4 (shF f 8) w30 R30.out (by have := hn.out; omega) (by decide) (by decide))
  rw [← hy1.out] at k
  go_upto_region 4 with (go_at_call 55; refine k.out.mono ?_; rintro e w4 ⟨rfl, R4, B4⟩; have S4 := hideit (S30.out.but B4 (by have := hrs.out; omega)); have Q4 := hideit (Q30.out.but B4 (by have := hrq.out; omega)); replace R4 := hideit R4; replace B4 := hideit (B30.out.trans B4); have e0 : w4.cell? ⟨s, 1, none⟩ = some (.int .i64 0) := S4.out.1 1 (by decide); have e1 : w4.frozen? ⟨s, 1, none⟩ = false := S4.out.2.1 1 (by decide); clear k S30 Q30 R30 B30)
  have S40 := hideit ((S4.out.set 1 (.int .i64 (y1.toNat : Int))).congr (g' := hdv ⟨y0, (y1.toNat : Int), 0, 0, 0, 0, 0, 0, fun _ => 0#8⟩) fun j hj => by
    unfold hdv
    by_cases h : j = 1
    · subst h; rfl
    · rw [if_neg h]; simp only [if_neg h])
  have Q40 := hideit (Q4.out.but (but_setCell w4 s 1 (.int .i64 (y1.toNat : Int))) (by have := hqs.out; omega))
  have R40 := hideit (R4.out.setc hrs.out hlo.out 1 (.int .i64 (y1.toNat : Int)))
  have B40 := hideit (but_newc B4.out hws.out (.int .i64 (y1.toNat : Int)) 1)
  clear e0 e1 S4 Q4 R4 B4
  generalize w4.setCell ⟨s, 1, none⟩ (.int .i64 (y1.toNat : Int)) = w40 at *
  obtain ⟨y2, hy2⟩ : ∃ y, y = leN (shF (shF f 8) 4) 1 := ⟨_, rfl⟩
  replace hy2 := hideit hy2
  have k := hideit (get_int lo r (l - 8 - 4) 1 (shF (shF f 8) 4) w40 R40.out (by have := hn.out; omega) (by decide) (by decide))
  rw [← hy2.out] at k
  go_upto_region 5 with (go_at_call 55; refine k.out.mono ?_; rintro e w5 ⟨rfl, R5, B5⟩; have S5 := hideit (S40.out.but B5 (by have := hrs.out; omega)); have Q5 := hideit (Q40.out.but B5 (by have := hrq.out; omega)); replace R5 := hideit R5; replace B5 := hideit (B40.out.trans B5); have e0 : w5.cell? ⟨s, 2, none⟩ = some (.int .i64 0) := S5.out.1 2 (by decide); have e1 : w5.frozen? ⟨s, 2, none⟩ = false := S5.out.2.1 2 (by decide); clear k S40 Q40 R40 B40)
  have S50 := hideit ((S5.out.set 2 (.int .i64 (y2.toNat : Int))).congr (g' := hdv ⟨y0, (y1.toNat : Int), (y2.toNat : Int), 0, 0, 0, 0, 0, fun _ => 0#8⟩) fun j hj => by
    unfold hdv
    by_cases h : j = 2
    · subst h; rfl
    · rw [if_neg h]; simp only [if_neg h])
  have Q50 := hideit (Q5.out.but (but_setCell w5 s 2 (.int .i64 (y2.toNat : Int))) (by have := hqs.out; omega))
  have R50 := hideit (R5.out.setc hrs.out hlo.out 2 (.int .i64 (y2.toNat : Int)))
  have B50 := hideit (but_newc B5.out hws.out (.int .i64 (y2.toNat : Int)) 2)
  clear e0 e1 S5 Q5 R5 B5
  generalize w5.setCell ⟨s, 2, none⟩ (.int .i64 (y2.toNat : Int)) = w50 at *
  obtain ⟨y3, hy3⟩ : ∃ y, y = leN (shF (shF (shF f 8) 4) 1) 2 := ⟨_, rfl⟩
  replace hy3 := hideit hy3
  have k := hideit (get_int lo r (l - 8 - 4 - 1) 2 (shF (shF (shF f 8) 4) 1) w50 R50.out (by have := hn.out; omega) (by decide) (by decide))
  rw [← hy3.out] at k
  go_upto_region 6 with (go_at_call 55; refine k.out.mono ?_; rintro e w6 ⟨rfl, R6, B6⟩; have S6 := hideit (S50.out.but B6 (by have := hrs.out; omega)); have Q6 := hideit (Q50.out.but B6 (by have := hrq.out; omega)); replace R6 := hideit R6; replace B6 := hideit (B50.out.trans B6); have e0 : w6.cell? ⟨s, 3, none⟩ = some (.int .i64 0) := S6.out.1 3 (by decide); have e1 : w6.frozen? ⟨s, 3, none⟩ = false := S6.out.2.1 3 (by decide); clear k S50 Q50 R50 B50)
  have S60 := hideit ((S6.out.set 3 (.int .i64 (y3.toNat : Int))).congr (g' := hdv ⟨y0, (y1.toNat : Int), (y2.toNat : Int), (y3.toNat : Int), 0, 0, 0, 0, fun _ => 0#8⟩) fun j hj => by
    unfold hdv
    by_cases h : j = 3
    · subst h; rfl
    · rw [if_neg h]; simp only [if_neg h])
  have Q60 := hideit (Q6.out.but (but_setCell w6 s 3 (.int .i64 (y3.toNat : Int))) (by have := hqs.out; omega))
  have R60 := hideit (R6.out.setc hrs.out hlo.out 3 (.int .i64 (y3.toNat : Int)))
  have B60 := hideit (but_newc B6.out hws.out (.int .i64 (y3.toNat : Int)) 3)
  clear e0 e1 S6 Q6 R6 B6
  generalize w6.setCell ⟨s, 3, none⟩ (.int .i64 (y3.toNat : Int)) = w60 at *
  obtain ⟨y4, hy4⟩ : ∃ y, y = leN (shF (shF (shF (shF f 8) 4) 1) 2) 1 := ⟨_, rfl⟩
  replace hy4 := hideit hy4
  have k := hideit (get_int lo r (l - 8 - 4 - 1 - 2) 1 (shF (shF (shF (shF f 8) 4) 1) 2) w60 R60.out (by have := hn.out; omega) (by decide) (by decide))
  rw [← hy4.out] at k
  go_upto_region 7 with (go_at_call 55; refine k.out.mono ?_; rintro e w7 ⟨rfl, R7, B7⟩; have S7 := hideit (S60.out.but B7 (by have := hrs.out; omega)); have Q7 := hideit (Q60.out.but B7 (by have := hrq.out; omega)); replace R7 := hideit R7; replace B7 := hideit (B60.out.trans B7); have e0 : w7.cell? ⟨s, 4, none⟩ = some (.int .i64 0) := S7.out.1 4 (by decide); have e1 : w7.frozen? ⟨s, 4, none⟩ = false := S7.out.2.1 4 (by decide); clear k S60 Q60 R60 B60)
  have S70 := hideit ((S7.out.set 4 (.int .i64 (y4.toNat : Int))).congr (g' := hdv ⟨y0, (y1.toNat : Int), (y2.toNat : Int), (y3.toNat : Int), (y4.toNat : Int), 0, 0, 0, fun _ => 0#8⟩) fun j hj => by
    unfold hdv
    by_cases h : j = 4
    · subst h; rfl
    · rw [if_neg h]; simp only [if_neg h])
  have Q70 := hideit (Q7.out.but (but_setCell w7 s 4 (.int .i64 (y4.toNat : Int))) (by have := hqs.out; omega))
  have R70 := hideit (R7.out.setc hrs.out hlo.out 4 (.int .i64 (y4.toNat : Int)))
  have B70 := hideit (but_newc B7.out hws.out (.int .i64 (y4.toNat : Int)) 4)
  clear e0 e1 S7 Q7 R7 B7
  generalize w7.setCell ⟨s, 4, none⟩ (.int .i64 (y4.toNat : Int)) = w70 at *
  obtain ⟨y5, hy5⟩ : ∃ y, y = leN (shF (shF (shF (shF (shF f 8) 4) 1) 2) 1) 1 := ⟨_, rfl⟩
  obtain ⟨y6, hy6⟩ : ∃ y, y = leN (shF (shF (shF (shF (shF (shF f 8) 4) 1) 2) 1) 1) 2 := ⟨_, rfl⟩
  obtain ⟨y7, hy7⟩ : ∃ y, y = leN (shF (shF (shF (shF (shF (shF (shF f 8) 4) 1) 2) 1) 1) 2) 1 := ⟨_, rfl⟩
  replace hy5 := hideit hy5
  replace hy6 := hideit hy6
  replace hy7 := hideit hy7
  have k := hideit (get_pa lo r (l - 8 - 4 - 1 - 2 - 1) (shF (shF (shF (shF (shF f 8) 4) 1) 2) 1) w70 R70.out hlo.out (by have := hn.out; omega))
  rw [← hy5.out, ← hy6.out, ← hy7.out] at k
  refine wp_region_lit ?_
  refine wpList_run rfl (.pointer (some ⟨r, 0, none⟩)) (by simp [go_sem]) ?_
  simp only [Act.put, List.setIfInBounds_toArray, List.set_cons_zero, List.set_cons_succ]
  refine wpList_call rfl (by simp [go_sem]; exact ⟨rfl, rfl⟩) ?_
  refine (k.out).mono ?_
  rintro e w8 ⟨rfl, R8, B8⟩
  refine ⟨_, rfl, ?_⟩
  simp only [Act.put, List.setIfInBounds_toArray, List.set_cons_zero, List.set_cons_succ]
  have S8 := hideit (S70.out.but B8 (by have := hrs.out; omega))
  have Q8 := hideit (Q70.out.but B8 (by have := hrq.out; omega))
  replace R8 := hideit R8
  replace B8 := hideit (B70.out.trans B8)
  clear k S70 Q70 R70 B70
  refine wpList_run rfl (.pointer (some ⟨s, 5, none⟩)) (by simp [go_sem]) ?_
  simp only [Act.put, List.setIfInBounds_toArray, List.set_cons_zero, List.set_cons_succ]
  refine wpList_store_mid rfl 24 (.tmp 21) (.tmp 20) rfl s 5 (row 3 (pav (y5.toNat : Int) (y6.toNat : Int) (y7.toNat : Int))).toArray rfl rfl (by rw [row_size]; exact S8.out.thereSub 5 3 (by decide)) (by rw [row_size]; exact infoP) (row_one fun j _ => by unfold pav; split <;> (try split) <;> rfl) ?_
  rw [show (row 3 (pav (y5.toNat : Int) (y6.toNat : Int) (y7.toNat : Int))).toArray.toList = row 3 (pav (y5.toNat : Int) (y6.toNat : Int) (y7.toNat : Int)) from rfl]
  have S9 := hideit ((S8.out.part 5 3 (pav (y5.toNat : Int) (y6.toNat : Int) (y7.toNat : Int)) (by decide)).congr (g' := hdv ⟨y0, (y1.toNat : Int), (y2.toNat : Int), (y3.toNat : Int), (y4.toNat : Int), (y5.toNat : Int), (y6.toNat : Int), (y7.toNat : Int), fun _ => 0#8⟩) fun j hj => by
    by_cases h : 5 ≤ j ∧ j < 5 + 3
    · rw [if_pos h]
      rcases (by omega : j = 5 ∨ j = 6 ∨ j = 7) with rfl | rfl | rfl <;> rfl
    · rw [if_neg h]
      unfold hdv
      rw [if_neg (show ¬ j = 5 by omega), if_neg (show ¬ j = 6 by omega), if_neg (show ¬ j = 7 by omega), if_neg (show ¬ j = 5 by omega), if_neg (show ¬ j = 6 by omega), if_neg (show ¬ j = 7 by omega)])
  have Q9 := hideit (Q8.out.cellsOther (c := s) (by have := hqs.out; omega) (row 3 (pav (y5.toNat : Int) (y6.toNat : Int) (y7.toNat : Int))) 5)
  have R9 := hideit (R8.out.set (o := 5) hrs.out hlo.out (row 3 (pav (y5.toNat : Int) (y6.toNat : Int) (y7.toNat : Int))))
  have B9 := hideit (but_new (o := 5) B8.out hws.out (row 3 (pav (y5.toNat : Int) (y6.toNat : Int) (y7.toNat : Int))))
  clear S8 Q8 R8 B8
  generalize w8.setCells s 5 (row 3 (pav (y5.toNat : Int) (y6.toNat : Int) (y7.toNat : Int))) = w9 at *
  simp only [Act.put]
  go_upto_region 8 with (fail)
  have c25 := cutR25
  refine wp_region_lad (fun _ => True) [(false, 0), (false, 1), (false, 2), (true, 3), (true, 4)] (by kernel_rfl) (by kernel_rfl) (by decide +kernel) (by decide +kernel) (by decide +kernel) (by decide +kernel) trivial ?_
  refine wpX_f _ (.pointer (some ⟨s, 8, none⟩)) rfl rfl (fun X _ => by simp [go_sem]) ?_
  simp only [List.getElem_toArray, List.getElem_cons_zero, Act.put, List.setIfInBounds_toArray, List.set_cons_zero, List.set_cons_succ]
  refine wpX_f _ (.slice (some ⟨s, 8, none⟩) 16 16) rfl rfl (fun X _ => by simp [go_sem, c25]) ?_
  simp only [List.getElem_toArray, List.getElem_cons_zero, List.getElem_cons_succ, Act.put, List.setIfInBounds_toArray, List.set_cons_zero, List.set_cons_succ]
  refine wpX_f _ (.pointer (some ⟨r, 0, none⟩)) rfl rfl (fun X _ => by simp [go_sem]) ?_
  simp only [List.getElem_toArray, List.getElem_cons_zero, List.getElem_cons_succ, Act.put, List.setIfInBounds_toArray, List.set_cons_zero, List.set_cons_succ]
  refine wpX_call _ rfl rfl (by simp [go_sem]) ((rbytes_ok lo r (l - 8 - 4 - 1 - 2 - 1 - 1 - 2 - 1) 16 (shF (shF (shF (shF (shF (shF (shF (shF f 8) 4) 1) 2) 1) 1) 2) 1) w9.drew (R9.out.ext (Ext.refl w9).draw) (by have := hn.out; omega) (by have := hl.out; omega)).mono ?_)
  rintro e w10 ⟨v1, rfl, O1, _, R10, B10⟩
  refine ⟨_, rfl, fun _ => True, fun _ h => h, trivial, ?_⟩
  simp only [List.getElem_toArray, List.getElem_cons_zero, List.getElem_cons_succ, Act.put, List.setIfInBounds_toArray, List.set_cons_zero, List.set_cons_succ]
  obtain ⟨b1, cp1, rfl, _, _, _, H1⟩ := O1.lies (by decide)
  have S10 := hideit (S9.out.drew.but B10 (by have := hrs.out; omega))
  have Q10 := hideit (Q9.out.drew.but B10 (by have := hrq.out; omega))
  have B10' := hideit ((B9.out.ext (Ext.refl w9).draw).trans B10)
  obtain ⟨nm, hnm⟩ : ∃ nm, nm = shF (shF (shF (shF (shF (shF (shF (shF f 8) 4) 1) 2) 1) 1) 2) 1 := ⟨_, rfl⟩
  have RR : Hid (Rd lo r (l - 36) (shF (shF (shF (shF (shF (shF (shF (shF (shF f 8) 4) 1) 2) 1) 1) 2) 1) 16) false w10) := hideit (by have h9 := R10; rwa [show l - 8 - 4 - 1 - 2 - 1 - 1 - 2 - 1 - 16 = l - 36 by omega] at h9)
  rw [← hnm] at H1
  refine wpX_to _ (goInt 16) (w10.setCells s 8 (row 16 (yv nm))) rfl rfl (exec_copy (.tmp 23) (.tmp 25) 28 28 rfl 5 Tryd.underlying28 (by kernel_rfl) s 24 _ S10.out 8 16 16 ⟨b1, 0, none⟩ 16 cp1 rfl rfl 16 (yv nm) rfl (fun j hj => by rw [add_none, Nat.zero_add]; exact H1.1 j hj) (by decide) (fun _ _ => rfl)) (fun _ => True) (fun _ h => h) trivial ?_
  simp only [List.getElem_toArray, List.getElem_cons_zero, List.getElem_cons_succ, Act.put, List.setIfInBounds_toArray, List.set_cons_zero, List.set_cons_succ]
  have S11 := hideit ((S10.out.part 8 16 (yv nm) (by decide)).congr (g' := hdv ⟨y0, (y1.toNat : Int), (y2.toNat : Int), (y3.toNat : Int), (y4.toNat : Int), (y5.toNat : Int), (y6.toNat : Int), (y7.toNat : Int), nm⟩) fun j hj => by
    by_cases h : 8 ≤ j ∧ j < 8 + 16
    · rw [if_pos h]
      unfold hdv yv
      rw [if_neg (by omega), if_neg (by omega), if_neg (by omega), if_neg (by omega), if_neg (by omega), if_neg (by omega), if_neg (by omega), if_neg (by omega)]
    · rw [if_neg h]
      rcases (by omega : j = 0 ∨ j = 1 ∨ j = 2 ∨ j = 3 ∨ j = 4 ∨ j = 5 ∨ j = 6 ∨ j = 7) with rfl | rfl | rfl | rfl | rfl | rfl | rfl | rfl <;> rfl)
  have Q11 := hideit (Q10.out.cellsOther (c := s) (by have := hqs.out; omega) (row 16 (yv nm)) 8)
  have R11 := hideit (RR.out.set (o := 8) hrs.out hlo.out (row 16 (yv nm)))
  have B11 := hideit (but_new (o := 8) B10'.out hws.out (row 16 (yv nm)))
  have hHH : H = ⟨y0, (y1.toNat : Int), (y2.toNat : Int), (y3.toNat : Int), (y4.toNat : Int), (y5.toNat : Int), (y6.toNat : Int), (y7.toNat : Int), nm⟩ := by rw [hH.out, hnm, hy0.out, hy1.out, hy2.out, hy3.out, hy4.out, hy5.out, hy6.out, hy7.out]
  rw [← hHH] at S11
  clear S10 Q10 R10 B10 B10' RR H1 O1 S9 Q9 R9 B9 hHH hH c25 hnm hy0 hy1 hy2 hy3 hy4 hy5 hy6 hy7
  generalize w10.setCells s 8 (row 16 (yv nm)) = w11 at *
  refine wpX_nil ?_
  go_upto_region 9 with (fail)
  refine wp_region_lit ?_
  refine wpList_load_mid rfl 27 (.tmp 3) rfl s 0 rfl (row 24 (hdv H)) _ S11.out.range Tryd.underlying27 rfl (by rw [row_length]; exact infoH) ?_
  simp only [Act.put, List.setIfInBounds_toArray, List.set_cons_zero, List.set_cons_succ]
  refine wpList_store_mid rfl 27 (.tmp 2) (.tmp 27) rfl q 0 (row 24 (hdv H)).toArray rfl rfl (by rw [row_size]; exact Q11.out.there) (by rw [row_size]; exact infoH) (row_one fun j _ => hdv_one H j) ?_
  rw [show (row 24 (hdv H)).toArray.toList = row 24 (hdv H) from rfl]
  have h9 : Hid (RowAt q 24 (hdv H) (w11.setCells q 0 (row 24 (hdv H)))) := hideit Q11.out.cells
  have R12 := hideit (R11.out.set (o := 0) hrq.out hlo.out (row 24 (hdv H)))
  have B12 := hideit (but_new (o := 0) B11.out hwq.out (row 24 (hdv H)))
  generalize w11.setCells q 0 (row 24 (hdv H)) = w12 at *
  clear S11 Q11 R11 B11
  simp only [Act.put]
  go_wp2
  exact bodyPost_ret (ret_row Tryd.results39 rfl h9.out Tryd.underlying27 rfl infoH) rfl ⟨rfl, R12.out, B12.out⟩
end Go.Proofs.YtenlokmoijeehaaDoor
