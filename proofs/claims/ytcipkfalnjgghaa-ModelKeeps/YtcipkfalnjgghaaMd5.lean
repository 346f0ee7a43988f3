/-
  Steps of a Write.
-/
import Derived.Test.YtcipkfalnjgghaaMd4
namespace Go.Proofs.Ytcipkfalnjgghaa
open Go.RowKit Go.BigFrame Go.Maps
set_option linter.unusedVariables false
theorem MapAt.ext {k : TypeId} {b n : Nat} {m : Int → Option Value} {W Y : World} (h : MapAt Try.prog k b n m W) (hk : Ext W Y) : MapAt Try.prog k b n m Y := h.same (Below.block hk b h.lt)
theorem zero22 (w : World) : (zeroValue 22).run Try.prog w = .ok (.slice none 0 0) w := by kernel_rfl
theorem zero61 (w : World) : (zeroValue 61).run Try.prog w = .ok (secV fun _ => 0#8) w := by kernel_rfl
theorem exec_mput {P : Program} {o : Oper} {a : Act} {w w' : World} {t : TypeId} {m k v : Value} (x y z : Operand) (ho : o.op = .mapUpdate t x y z) (hx : a.eval x = m) (hy : a.eval y = k) (hz : a.eval z = v)
    (hr : (Instr.mapUpdate t m k v).run P w = .ok () w') : (execOp a.eval o).run P w = .ok .skip w' := by
  simp [execOp, ho, hx, hy, hz, hr, Result.andThen]
theorem exec_loadL {P : Program} {o : Oper} {a : Act} {w : World} (t : TypeId) (x : Operand) (ho : o.op = .load t x) (ad : Addr) (n : Nat) (g : Nat → Value) {d : TypeDesc} (hx : a.eval x = .pointer (some ad)) (h : LieAt ad n g w)
    (hu : P.underlying t = some d) (hd : d.isRow = true) (hi : (P.info? t).map (·.size) = some n) : (execOp a.eval o).run P w = .ok (.value (.agg (row n g).toArray)) w := by
  have hl := loadLie (P := P) h
  cases hq : P.info? t with
  | none => simp [hq] at hi
  | some i =>
    have hs : i.size = n := by simpa [hq] using hi
    have hagg : (isAgg t).run P w = .ok true w := by
      unfold isAgg
      rw [Sem.run_bind, run_underlying hu w]
      cases d <;> simp_all
    unfold execOp
    simp [ho, hx, Instr.loadAt, Instr.sureAddr, Sem.run_bind, loadVar, hagg, sizeOf, typeInfo, hq, hs, hl]
theorem run_arrayAt (a : Addr) (k : Nat) (X : World) : (Instr.arrayAt 61 (.slice (some a) 512 k)).run Try.prog X = .ok (.pointer (some a)) X := by
  unfold Instr.arrayAt
  rw [Sem.run_bind, run_underlying Try.underlying61]
  rfl
theorem xlook {P : Program} {o : Oper} {a : Act} {w : World} {t : TypeId} {m k v : Value} {c : Bool} (x y : Operand) (ho : o.op = .lookup t x y c) (hx : a.eval x = m) (hy : a.eval y = k) (hr : (Instr.lookup t m k c).run P w = .ok v w) : (execOp a.eval o).run P w = .ok (.value v) w := by
  generalize a.eval = ρ at hx hy ⊢
  simp [execOp, ho, hx, hy, hr, Result.andThen]
set_option maxRecDepth 20000 in
set_option maxHeartbeats 4000000 in
theorem has_any (h : Hd) (sb pb : Nat) (ep : Int) (r : Rt) (op : Bool) (sl : Int) (p C : Nat) (m : Int → Option Value) (n : Int) (w : World) (hS : RowAt p 64 (mdV h sb pb ep r op sl) w) (hP : MapAt Try.prog 3 pb C m w) (hn : okI n) : Calls Try.prog 31 #[.pointer (some ⟨p, 0, none⟩), .int .i64 n] w fun e w' => e = .returned (.bool (m n).isSome) ∧ w' = w := by
  replace hS := hideit hS
  replace hP := hideit hP
  replace hn := hideit hn
  go_enter Try.func31, Try.ntmps31
  go_upto_region 1 with (fail)
  refine wp_region_lit ?_
  have m1 : w.cell? ⟨p, 25, none⟩ = some (.map (some pb)) := hS.out.1 25 (by decide)
  refine xm [some (.pointer (some ⟨p, 0, none⟩)), some (.pointer (some ⟨p, 0, none⟩)), some (.pointer (some ⟨p, 25, none⟩)), some (.map (some pb)), some (.int .i64 (n))] (by kernel_rfl) (by simp [xr, go_sem, m1]) ?_
  simp only [xw, p0, p1, p2, p3]
  clear m1
  refine wpList_run rfl (.tuple #[(m n).getD (.slice none 0 0), .bool (m n).isSome]) (xlook (.tmp 11) (.tmp 12) rfl rfl rfl (hP.out.lookOk Try.underlying3 Try.underlying63 (zero22 _) hn.out)) ?_
  simp only [Act.put, List.setIfInBounds_toArray, List.set_cons_zero, List.set_cons_succ]
  refine xm [some (.tuple #[(m n).getD (.slice none 0 0), .bool (m n).isSome]), some ((m n).getD (.slice none 0 0)), some (.bool (m n).isSome), some ((m n).getD (.slice none 0 0)), some (.bool (m n).isSome)] (by kernel_rfl) (by simp [xr, go_sem]) ?_
  simp only [xw, p0, p1, p2, p3]
  go_upto_region 2 with (fail)
  refine wp_region_lit ?_
  refine xm [some (.bool (m n).isSome), some (.bool (m n).isSome)] (by kernel_rfl) (by simp [xr, go_sem]) ?_
  simp only [xw, p0, p1, p2, p3]
  go_wp2
  go_ret
  exact ⟨rfl, rfl⟩
theorem push_list : ∀ (l : List Int) (r : ByteArray), (l.foldl (fun r n => r.push (UInt8.ofNat n.toNat)) r).data.toList = r.data.toList ++ l.map fun n => UInt8.ofNat n.toNat
  | [], r => by simp
  | n :: l, r => by
    rw [List.foldl_cons, push_list l]
    simp [ByteArray.push]
theorem bstr_data (n : Nat) (f : Nat → BitVec 8) : (bstr n fun j => ((f j).toNat : Int)).data.toList = (List.range n).map fun j => UInt8.ofNat (f j).toNat := by
  unfold bstr
  rw [push_list]
  show [] ++ _ = _
  rw [List.nil_append, List.map_map]
  rfl
theorem bstr_inj (n m : Nat) (f g : Nat → BitVec 8) : (bstr n fun j => ((f j).toNat : Int)) = (bstr m fun j => ((g j).toNat : Int)) ↔ n = m ∧ ∀ j, j < n → f j = g j := by
  constructor
  · intro h
    have h1 : (bstr n fun j => ((f j).toNat : Int)).data.toList = (bstr m fun j => ((g j).toNat : Int)).data.toList := by rw [h]
    rw [bstr_data, bstr_data] at h1
    have hl : n = m := by simpa using congrArg List.length h1
    subst hl
    refine ⟨rfl, fun j hj => ?_⟩
    have h2 := congrArg (fun l => l[j]?) h1
    simp only [List.getElem?_map, List.getElem?_range hj, Option.map_some, Option.some.injEq] at h2
    have h3 := congrArg UInt8.toNat h2
    simp only [UInt8.toNat_ofNat'] at h3
    apply BitVec.eq_of_toNat_eq
    have := (f j).isLt
    have := (g j).isLt
    omega
  · rintro ⟨rfl, h⟩
    exact bstr_congr fun j hj => by rw [h j hj]
/-- are they the same bytes? -/
def eqB (n m : Nat) (f g : Nat → BitVec 8) : Bool := decide (n = m ∧ ∀ j, j < n → f j = g j)
theorem ba_ext {a b : ByteArray} (h : a.toList = b.toList) : a = b := by
  rw [ByteArray.toList_eq, ByteArray.toList_eq] at h
  cases a
  cases b
  simp at h
  rw [h]
theorem streq_run (op : BinOp) (a b : ByteArray) (r : Bool) (h : a = b ↔ r = true) (w : World) : (binOp .eql 9 (.string a) (.string b)).run Try.prog w = .ok (.bool r) w ∧ (binOp .neq 9 (.string a) (.string b)).run Try.prog w = .ok (.bool !r) w := by
  have _ := op
  cases r with
  | true =>
    have := h.2 rfl
    subst this
    simp [go_sem]
  | false =>
    have h1 : ¬ a.toList = b.toList := fun e => by have := h.1 (ba_ext e); cases this
    simp [go_sem, h1]
theorem eqB_iff (n m : Nat) (f g : Nat → BitVec 8) : (bstr n fun j => ((f j).toNat : Int)) = (bstr m fun j => ((g j).toNat : Int)) ↔ eqB n m f g = true := by
  rw [bstr_inj]
  unfold eqB
  simp
theorem str_eq (n m : Nat) (f g : Nat → BitVec 8) (w : World) : (binOp .eql 9 (.string (bstr n fun j => ((f j).toNat : Int))) (.string (bstr m fun j => ((g j).toNat : Int)))).run Try.prog w = .ok (.bool (eqB n m f g)) w := (streq_run .eql _ _ _ (eqB_iff n m f g) w).1
theorem str_neq (n m : Nat) (f g : Nat → BitVec 8) (w : World) : (binOp .neq 9 (.string (bstr n fun j => ((f j).toNat : Int))) (.string (bstr m fun j => ((g j).toNat : Int)))).run Try.prog w = .ok (.bool (!eqB n m f g)) w := (streq_run .eql _ _ _ (eqB_iff n m f g) w).2
set_option maxRecDepth 20000 in
set_option maxHeartbeats 4000000 in
theorem equal_any (u v : Value) (n m : Nat) (f g : Nat → BitVec 8) (w : World) (hu : BV u n f w) (hv : BV v m g w) : Calls Try.prog 32 #[u, v] w fun e w' => e = .returned (.bool (eqB n m f g)) ∧ w' = w := by
  have ca := convV u n f w hu
  have cb := convV v m g w hv
  have ce := eqB_iff n m f g
  generalize (bstr n fun j => ((f j).toNat : Int)) = a at *
  generalize (bstr m fun j => ((g j).toNat : Int)) = b at *
  generalize eqB n m f g = r at *
  clear hu hv
  cases r with
  | true =>
    have hab := ce.2 rfl
    subst hab
    clear ce
    go_enter Try.func32, Try.ntmps32
    go_upto_region 1 with (fail)
    refine wp_region_lit ?_
    refine wpList_run rfl (u) (by simp [go_sem]) ?_
    simp only [Act.put, List.setIfInBounds_toArray, List.set_cons_zero, List.set_cons_succ]
    refine wpList_run rfl (.string a) (by simp [go_sem, ca]) ?_
    simp only [Act.put, List.setIfInBounds_toArray, List.set_cons_zero, List.set_cons_succ]
    refine wpList_run rfl (v) (by simp [go_sem]) ?_
    simp only [Act.put, List.setIfInBounds_toArray, List.set_cons_zero, List.set_cons_succ]
    refine wpList_run rfl (.string a) (by simp [go_sem, cb]) ?_
    simp only [Act.put, List.setIfInBounds_toArray, List.set_cons_zero, List.set_cons_succ]
    refine wpList_run rfl (.bool true) (by simp [go_sem]) ?_
    simp only [Act.put, List.setIfInBounds_toArray, List.set_cons_zero, List.set_cons_succ]
    refine wpList_run rfl (.bool true) (by simp [go_sem]) ?_
    simp only [Act.put, List.setIfInBounds_toArray, List.set_cons_zero, List.set_cons_succ]
    clear ca cb
    go_wp2
    go_ret
    exact ⟨rfl, rfl⟩
  | false =>
    have h1 : ¬ a.toList = b.toList := fun e => by have := ce.1 (ba_ext e); cases this
    clear ce
    go_enter Try.func32, Try.ntmps32
    go_upto_region 1 with (fail)
    refine wp_region_lit ?_
    refine wpList_run rfl (u) (by simp [go_sem]) ?_
    simp only [Act.put, List.setIfInBounds_toArray, List.set_cons_zero, List.set_cons_succ]
    refine wpList_run rfl (.string a) (by simp [go_sem, ca]) ?_
    simp only [Act.put, List.setIfInBounds_toArray, List.set_cons_zero, List.set_cons_succ]
    refine wpList_run rfl (v) (by simp [go_sem]) ?_
    simp only [Act.put, List.setIfInBounds_toArray, List.set_cons_zero, List.set_cons_succ]
    refine wpList_run rfl (.string b) (by simp [go_sem, cb]) ?_
    simp only [Act.put, List.setIfInBounds_toArray, List.set_cons_zero, List.set_cons_succ]
    refine wpList_run rfl (.bool false) (by simp [go_sem, h1]) ?_
    simp only [Act.put, List.setIfInBounds_toArray, List.set_cons_zero, List.set_cons_succ]
    refine wpList_run rfl (.bool false) (by simp [go_sem]) ?_
    simp only [Act.put, List.setIfInBounds_toArray, List.set_cons_zero, List.set_cons_succ]
    clear ca cb h1
    go_wp2
    go_ret
    exact ⟨rfl, rfl⟩
set_option maxRecDepth 20000 in
set_option maxHeartbeats 4000000 in
theorem w1_any (h : Hd) (sb pb : Nat) (ep : Int) (r : Rt) (op : Bool) (sl : Int) (p bm bn : Nat) (n : Int) (w : World) (hS : RowAt p 64 (mdV h sb pb ep r op sl) w) (hm : RowAt bm 1 (fun _ => .pointer (some ⟨p, 0, none⟩)) w) (hn : RowAt bn 1 (fun _ => .int .i64 n) w) : Calls Try.prog 34 #[.pointer (some ⟨bm, 0, none⟩), .pointer (some ⟨bn, 0, none⟩)] w fun e w' => e = .returned (.int .i64 (if 0 ≤ n ∧ n < h.se then 0 else 100)) ∧ w' = w := by
  have hq := rsec_any h sb pb ep r op sl p n w hS
  obtain ⟨R, hR⟩ : ∃ R : Int, R = if 0 ≤ n ∧ n < h.se then 0 else 100 := ⟨_, rfl⟩
  rw [← hR] at hq ⊢
  clear hR
  replace hS := hideit hS
  replace hm := hideit hm
  replace hn := hideit hn
  replace hq := hideit hq
  go_enter Try.func34, Try.ntmps34
  go_upto_region 1 with (fail)
  refine wp_region_lit ?_
  have m1 : w.cell? ⟨bm, 0, none⟩ = some (.pointer (some ⟨p, 0, none⟩)) := hm.out.1 0 (by decide)
  have m2 : w.cell? ⟨bn, 0, none⟩ = some (.int .i64 (n)) := hn.out.1 0 (by decide)
  refine xm [some (.pointer (some ⟨p, 0, none⟩)), some (.int .i64 (n))] (by kernel_rfl) (by simp [xr, go_sem, m1, m2]) ?_
  simp only [xw, p0, p1, p2, p3]
  clear m1
  clear m2
  refine wpList_call rfl (by simp [go_sem]) ((hq.out).mono ?_)
  rintro e yy ⟨rfl, hyy⟩
  refine ⟨_, rfl, ?_⟩
  simp only [Act.put, List.setIfInBounds_toArray, List.set_cons_zero, List.set_cons_succ]
  replace hyy := hyy.symm
  subst hyy
  refine xm [some (.int .i64 (R))] (by kernel_rfl) (by simp [xr, go_sem]) ?_
  simp only [xw, p0, p1, p2, p3]
  go_wp2
  go_ret
  exact ⟨rfl, rfl⟩
set_option maxRecDepth 20000 in
set_option maxHeartbeats 4000000 in
theorem a3_any (h : Hd) (sb pb : Nat) (ep : Int) (r : Rt) (op : Bool) (sl : Int) (p bm bn : Nat) (n : Int) (w : World) (hS : RowAt p 64 (mdV h sb pb ep r op sl) w) (hm : RowAt bm 1 (fun _ => .pointer (some ⟨p, 0, none⟩)) w) (hn : RowAt bn 1 (fun _ => .int .i64 n) w) : Calls Try.prog 41 #[.pointer (some ⟨bm, 0, none⟩), .pointer (some ⟨bn, 0, none⟩)] w fun e w' => e = .returned (.int .i64 (if 0 ≤ n ∧ n < h.sl then 0 else 100)) ∧ w' = w := by
  have hq := rslot_any h sb pb ep r op sl p n w hS
  obtain ⟨R, hR⟩ : ∃ R : Int, R = if 0 ≤ n ∧ n < h.sl then 0 else 100 := ⟨_, rfl⟩
  rw [← hR] at hq ⊢
  clear hR
  replace hS := hideit hS
  replace hm := hideit hm
  replace hn := hideit hn
  replace hq := hideit hq
  go_enter Try.func41, Try.ntmps41
  go_upto_region 1 with (fail)
  refine wp_region_lit ?_
  have m1 : w.cell? ⟨bm, 0, none⟩ = some (.pointer (some ⟨p, 0, none⟩)) := hm.out.1 0 (by decide)
  have m2 : w.cell? ⟨bn, 0, none⟩ = some (.int .i64 (n)) := hn.out.1 0 (by decide)
  refine xm [some (.pointer (some ⟨p, 0, none⟩)), some (.int .i64 (n))] (by kernel_rfl) (by simp [xr, go_sem, m1, m2]) ?_
  simp only [xw, p0, p1, p2, p3]
  clear m1
  clear m2
  refine wpList_call rfl (by simp [go_sem]) ((hq.out).mono ?_)
  rintro e yy ⟨rfl, hyy⟩
  refine ⟨_, rfl, ?_⟩
  simp only [Act.put, List.setIfInBounds_toArray, List.set_cons_zero, List.set_cons_succ]
  replace hyy := hyy.symm
  subst hyy
  refine xm [some (.int .i64 (R))] (by kernel_rfl) (by simp [xr, go_sem]) ?_
  simp only [xw, p0, p1, p2, p3]
  go_wp2
  go_ret
  exact ⟨rfl, rfl⟩
set_option maxRecDepth 20000 in
set_option maxHeartbeats 4000000 in
theorem v2_any (h : Hd) (sb pb : Nat) (ep : Int) (r : Rt) (op : Bool) (sl : Int) (p bm bn : Nat) (n : Int) (w : World) (hS : RowAt p 64 (mdV h sb pb ep r op sl) w) (hm : RowAt bm 1 (fun _ => .pointer (some ⟨p, 0, none⟩)) w) (hn : RowAt bn 1 (fun _ => .int .i64 n) w) : Calls Try.prog 46 #[.pointer (some ⟨bm, 0, none⟩), .pointer (some ⟨bn, 0, none⟩)] w fun e w' => e = .returned (.int .i64 (if 0 ≤ n ∧ n < h.sl then 0 else 100)) ∧ w' = w := by
  have hq := rslot_any h sb pb ep r op sl p n w hS
  obtain ⟨R, hR⟩ : ∃ R : Int, R = if 0 ≤ n ∧ n < h.sl then 0 else 100 := ⟨_, rfl⟩
  rw [← hR] at hq ⊢
  clear hR
  replace hS := hideit hS
  replace hm := hideit hm
  replace hn := hideit hn
  replace hq := hideit hq
  go_enter Try.func46, Try.ntmps46
  go_upto_region 1 with (fail)
  refine wp_region_lit ?_
  have m1 : w.cell? ⟨bm, 0, none⟩ = some (.pointer (some ⟨p, 0, none⟩)) := hm.out.1 0 (by decide)
  have m2 : w.cell? ⟨bn, 0, none⟩ = some (.int .i64 (n)) := hn.out.1 0 (by decide)
  refine xm [some (.pointer (some ⟨p, 0, none⟩)), some (.int .i64 (n))] (by kernel_rfl) (by simp [xr, go_sem, m1, m2]) ?_
  simp only [xw, p0, p1, p2, p3]
  clear m1
  clear m2
  refine wpList_call rfl (by simp [go_sem]) ((hq.out).mono ?_)
  rintro e yy ⟨rfl, hyy⟩
  refine ⟨_, rfl, ?_⟩
  simp only [Act.put, List.setIfInBounds_toArray, List.set_cons_zero, List.set_cons_succ]
  replace hyy := hyy.symm
  subst hyy
  refine xm [some (.int .i64 (R))] (by kernel_rfl) (by simp [xr, go_sem]) ?_
  simp only [xw, p0, p1, p2, p3]
  go_wp2
  go_ret
  exact ⟨rfl, rfl⟩
set_option maxRecDepth 20000 in
set_option maxHeartbeats 4000000 in
theorem w2_ok (bb : Nat) (o : Option Addr) (l k : Nat) (w : World) (hb : RowAt bb 1 (fun _ => .slice o l k) w) (hl : l = 512) : Calls Try.prog 35 #[.pointer (some ⟨bb, 0, none⟩)] w fun e w' => e = .returned (.int .i64 0) ∧ w' = w := by
  replace hb := hideit hb
  subst hl
  go_enter Try.func35, Try.ntmps35
  go_upto_region 1 with (fail)
  refine wp_region_lit ?_
  have m1 : w.cell? ⟨bb, 0, none⟩ = some (.slice o 512 k) := hb.out.1 0 (by decide)
  refine xm [some (.slice o 512 k), some (.int .i64 512), some (.bool false)] (by kernel_rfl) (by simp [xr, go_sem, m1]) ?_
  simp only [xw, p0, p1, p2, p3]
  clear m1
  refine wpList_call rfl (by simp [go_sem]) ((refuse_any false 101 w).mono ?_)
  rintro e yy ⟨rfl, hyy⟩
  refine ⟨_, rfl, ?_⟩
  simp only [Act.put, List.setIfInBounds_toArray, List.set_cons_zero, List.set_cons_succ]
  replace hyy := hyy.symm
  subst hyy
  refine xm [some (.int .i64 0)] (by kernel_rfl) (by simp [xr, go_sem]) ?_
  simp only [xw, p0, p1, p2, p3]
  go_wp2
  go_ret
  exact ⟨rfl, rfl⟩
set_option maxRecDepth 20000 in
set_option maxHeartbeats 4000000 in
theorem w2_no (bb : Nat) (o : Option Addr) (l k : Nat) (w : World) (hb : RowAt bb 1 (fun _ => .slice o l k) w) (hl : ¬ l = 512) : Calls Try.prog 35 #[.pointer (some ⟨bb, 0, none⟩)] w fun e w' => e = .returned (.int .i64 101) ∧ w' = w := by
  replace hb := hideit hb
  replace hl : ¬ (l : Int) = 512 := by omega
  go_enter Try.func35, Try.ntmps35
  go_upto_region 1 with (fail)
  refine wp_region_lit ?_
  have m1 : w.cell? ⟨bb, 0, none⟩ = some (.slice o l k) := hb.out.1 0 (by decide)
  refine xm [some (.slice o l k), some (.int .i64 (l : Int)), some (.bool true)] (by kernel_rfl) (by simp [xr, go_sem, m1, hl]) ?_
  simp only [xw, p0, p1, p2, p3]
  clear m1
  refine wpList_call rfl (by simp [go_sem]) ((refuse_any true 101 w).mono ?_)
  rintro e yy ⟨rfl, hyy⟩
  refine ⟨_, rfl, ?_⟩
  simp only [Act.put, List.setIfInBounds_toArray, List.set_cons_zero, List.set_cons_succ]
  replace hyy := hyy.symm
  subst hyy
  refine xm [some (.int .i64 101)] (by kernel_rfl) (by simp [xr, go_sem]) ?_
  simp only [xw, p0, p1, p2, p3]
  go_wp2
  go_ret
  exact ⟨rfl, rfl⟩
theorem BV.lie {a : Addr} {l c : Nat} {f : Nat → BitVec 8} {w : World} (h : BV (.slice (some a) l c) l f w) : LieAt a l (yv f) w := by
  rcases h with ⟨h, _⟩ | ⟨a', c', h, _, h3⟩
  · cases h
  · injection h with h1 h2 h3'; injection h1 with h1; subst h1; exact h3
set_option maxRecDepth 20000 in
set_option maxHeartbeats 4000000 in
theorem w3_any (h : Hd) (sb pb : Nat) (ep : Int) (r : Rt) (op : Bool) (sl : Int) (p bm bn bb C : Nat) (m : Int → Option Value) (n : Int) (a : Addr) (k : Nat) (f : Nat → BitVec 8) (w : World) (hS : RowAt p 64 (mdV h sb pb ep r op sl) w) (hm : RowAt bm 1 (fun _ => .pointer (some ⟨p, 0, none⟩)) w) (hn : RowAt bn 1 (fun _ => .int .i64 n) w) (hb : RowAt bb 1 (fun _ => .slice (some a) 512 k) w) (hV : BV (.slice (some a) 512 k) 512 f w) (hM : MapAt Try.prog 3 sb C m w) (hok : okI n) (hC : C < maxLen) :
    Calls Try.prog 37 #[.pointer (some ⟨bb, 0, none⟩), .pointer (some ⟨bm, 0, none⟩), .pointer (some ⟨bn, 0, none⟩)] w fun e w' => e = .returned (.int .i64 0) ∧ MapAt Try.prog 3 sb (C + 1) (mset m n (some (secV f))) w' ∧ Keeps (fun i => i = sb) w w' := by
  replace hS := hideit hS
  replace hm := hideit hm
  replace hn := hideit hn
  replace hb := hideit hb
  replace hV := hideit hV
  replace hM := hideit hM
  replace hok := hideit hok
  replace hC := hideit hC
  go_enter Try.func37, Try.ntmps37
  go_upto_region 1 with (fail)
  replace hS := hideit hS.out.drew
  replace hm := hideit hm.out.drew
  replace hn := hideit hn.out.drew
  replace hb := hideit hb.out.drew
  replace hV := hideit (hV.out.ext (Ext.draw (Ext.refl w)))
  replace hM := hideit (hM.out.ext (Ext.draw (Ext.refl w)))
  refine wp_region_ladz (fun X => Ext w.drew X) [8] [(false, 0), (false, 1), (false, 2), (false, 3), (false, 4), (false, 5), (false, 6), (false, 7), (true, 8)] (by kernel_rfl) (by kernel_rfl) (by decide +kernel) (by decide +kernel) (by decide +kernel) (by decide +kernel) (Ext.refl _) ?_
  refine wpZ_f _ (.pointer (some ⟨p, 0, none⟩)) rfl rfl (fun X hX => by have m1 : X.cell? ⟨bm, 0, none⟩ = some (.pointer (some ⟨p, 0, none⟩)) := (hm.out.carry hX).1 0 (by decide); simp [go_sem, m1]) ?_
  simp only [List.getElem_toArray, List.getElem_cons_zero, Act.put, List.setIfInBounds_toArray, List.set_cons_zero, List.set_cons_succ]
  refine wpZ_f _ (.pointer (some ⟨p, 0, none⟩)) rfl rfl (fun X _ => by simp [go_sem]) ?_
  simp only [List.getElem_toArray, List.getElem_cons_zero, List.getElem_cons_succ, Act.put, List.setIfInBounds_toArray, List.set_cons_zero, List.set_cons_succ]
  refine wpZ_f _ (.pointer (some ⟨p, 24, none⟩)) rfl rfl (fun X _ => by simp [go_sem]) ?_
  simp only [List.getElem_toArray, List.getElem_cons_zero, List.getElem_cons_succ, Act.put, List.setIfInBounds_toArray, List.set_cons_zero, List.set_cons_succ]
  refine wpZ_f _ (.map (some sb)) rfl rfl (fun X hX => by have m2 : X.cell? ⟨p, 24, none⟩ = some (.map (some sb)) := (hS.out.carry hX).1 24 (by decide); simp [go_sem, m2]) ?_
  simp only [List.getElem_toArray, List.getElem_cons_zero, List.getElem_cons_succ, Act.put, List.setIfInBounds_toArray, List.set_cons_zero, List.set_cons_succ]
  refine wpZ_f _ (.int .i64 (n)) rfl rfl (fun X hX => by have m3 : X.cell? ⟨bn, 0, none⟩ = some (.int .i64 (n)) := (hn.out.carry hX).1 0 (by decide); simp [go_sem, m3]) ?_
  simp only [List.getElem_toArray, List.getElem_cons_zero, List.getElem_cons_succ, Act.put, List.setIfInBounds_toArray, List.set_cons_zero, List.set_cons_succ]
  refine wpZ_f _ (.slice (some a) 512 k) rfl rfl (fun X hX => by have m4 : X.cell? ⟨bb, 0, none⟩ = some (.slice (some a) 512 k) := (hb.out.carry hX).1 0 (by decide); simp [go_sem, m4]) ?_
  simp only [List.getElem_toArray, List.getElem_cons_zero, List.getElem_cons_succ, Act.put, List.setIfInBounds_toArray, List.set_cons_zero, List.set_cons_succ]
  refine wpZ_f _ (.pointer (some a)) rfl rfl (fun X _ => by simp [go_sem, run_arrayAt a k X]) ?_
  simp only [List.getElem_toArray, List.getElem_cons_zero, List.getElem_cons_succ, Act.put, List.setIfInBounds_toArray, List.set_cons_zero, List.set_cons_succ]
  refine wpZ_f _ (secV f) rfl rfl (fun X hX => exec_loadL 61 (.tmp 10) rfl a 512 (yv f) rfl (hV.out.ext hX).lie Try.underlying61 rfl infoB) ?_
  simp only [List.getElem_toArray, List.getElem_cons_zero, List.getElem_cons_succ, Act.put, List.setIfInBounds_toArray, List.set_cons_zero, List.set_cons_succ]
  obtain ⟨w4, hr4, hM4, hG4, hz4⟩ := MapAt.put hM.out Try.underlying3 Try.underlying62 hC.out hok.out (secV f)
  refine wpZ_st _ w4 rfl rfl (exec_mput (.tmp 7) (.tmp 8) (.tmp 11) rfl rfl rfl rfl hr4) (fun _ => True) (.inl (by simp)) trivial ?_
  simp only [List.getElem_toArray, List.getElem_cons_zero, List.getElem_cons_succ, Act.put]
  refine wpZ_nil ?_
  have hF := hideit ((Keeps.of_ext (F := fun i => i = sb) (Ext.draw (Ext.refl w))).trans (F' := fun i => i = sb) (Keeps.of_grown hG4 (.inl rfl) fun e => (hM4.notB e).elim) fun i hi => .inl hi)
  replace hM4 := hideit hM4
  clear hr4 hG4
  go_wp2
  go_ret
  exact ⟨rfl, hM4.out, hF.out⟩
end Go.Proofs.Ytcipkfalnjgghaa
