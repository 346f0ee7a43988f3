/-
  Lists of kept writes; a disk's lasting writes. A disk's lasting writes, walked.
-/
import Derived.Test.YtiakkclabgelfaaDoorQc29
import Derived.Test.YtiakkclabgelfaaDoorQc1
namespace Go.Proofs.YtiakkclabgelfaaDoor
set_option maxRecDepth 20000
open Go.RowKit Go.BigFrame Go.Maps
theorem KL.ext {v : Value} {n : Nat} {kb kw : Nat → Int} {W Y : World} (h : KL v n kb kw W) (k : Ext W Y) : KL v n kb kw Y := by
  rcases h with h | ⟨a, cap, h1, h2, h3⟩
  · exact .inl h
  · exact .inr ⟨a, cap, h1, h2, h3.carry k⟩
theorem KL.form {v : Value} {n : Nat} {kb kw : Nat → Int} {W : World} (h : KL v n kb kw W) : ∃ o cap, v = .slice o n cap := by
  rcases h with ⟨rfl, rfl⟩ | ⟨a, cap, rfl, _⟩
  · exact ⟨_, _, rfl⟩
  · exact ⟨_, _, rfl⟩
theorem kl_at {a : Addr} {n : Nat} {kb kw : Nat → Int} {W : World} (h : LieAt a (n * 2) (kpV kb kw) W) (i : Nat) (hi : i < n) : LieAt (a.add (i * 2)) 2 (kpI (kb i) (kw i)) W :=
  ⟨fun j hj => by
    rw [add_add, h.1 (i * 2 + j) (by omega)]
    unfold kpV
    rw [show (i * 2 + j) / 2 = i by omega, show (i * 2 + j) % 2 = j by omega], by rw [add_block]; exact h.2⟩
theorem zero65 (w : World) : Sem.run Tryd.prog (zeroValue 97) w = .ok (.agg (row 2 (kpI 0 0)).toArray) w := by kernel_rfl
theorem info65 : (Tryd.prog.info? 97).map (·.size) = some 2 := by kernel_rfl
theorem run_cut (w : World) {lo : Option Addr} {k lc q : Nat} (hl : lo = none → lc = 0) (hq : q ≤ lc) : (Instr.sliceAt 49 (.slice lo k lc) none (some (.int .i64 (q : Int))) none).run Tryd.prog w = .ok (.slice lo q lc) w := by
  have h1 : (q : Int) ≤ (lc : Int) := by omega
  cases lo with
  | none =>
    obtain rfl := hl rfl
    obtain rfl : q = 0 := by omega
    simp [go_sem]
  | some b => simp [go_sem, h1]
theorem exec_cut {o : Oper} {a : Act} {w : World} {lo : Option Addr} {k lc q : Nat} (x y : Operand) (ho : o.op = .slice 49 x none (some y) none) (hx : a.eval x = .slice lo k lc) (hy : a.eval y = .int .i64 (q : Int)) (hl : lo = none → lc = 0) (hq : q ≤ lc) :
    (execOp a.eval o).run Tryd.prog w = .ok (.value (.slice lo q lc)) w := by
  simp [execOp, ho, hx, hy, run_cut w (k := k) hl hq, Result.andThen]
end Go.Proofs.YtiakkclabgelfaaDoor
namespace Go.Proofs.YtiakkclabgelfaaDoor
set_option maxRecDepth 20000
open Go.RowKit Go.BigFrame Go.Maps
def cutV (v : Value) (q : Nat) : Value := match v with
  | .slice o _ c => .slice o q c
  | v => v
section
variable {F : Nat → Prop} {p : Nat} {s : DSt} {C : Nat} {M : DM} {W : World}
theorem DkM.lsForm (h : DkM F p s C M W) {n : Nat} (hn : n < s.N) : ∃ lo lc, lsV M n = .slice lo (s.kc n) lc ∧ (lo = none → lc = 0) ∧ s.kc n ≤ lc ∧ lc ≤ maxLen := by
  rcases (h.ls hn).2 with ⟨h1, h2⟩ | ⟨b, c, cur, h1, _, _, h2, h3, _⟩
  · exact ⟨none, 0, by rw [h1, h2], fun _ => rfl, by omega, Nat.zero_le _⟩
  · exact ⟨_, _, h1, (fun e => absurd e (by simp)), h2, h3⟩
def mK (M : DM) (kb kw : Nat → Int) : Nat → Int → Option Value
  | 0 => fun _ => none
  | i + 1 => mset (mK M kb kw i) (kb i) (some (cutV (lsV M (kb i).toNat) (kw i).toNat))
def vdK (s : DSt) (M : DM) (kb kw : Nat → Int) (i : Nat) : Prop := mK M kb kw i (kb i) = none ∧ inN s.N (kb i) = true ∧ 0 ≤ kw i ∧ kw i ≤ (s.kc (kb i).toNat : Int)
def okK (s : DSt) (M : DM) (kb kw : Nat → Int) (n : Nat) : Prop := ∀ i, i < n → vdK s M kb kw i
set_option maxRecDepth 20000 in
set_option maxHeartbeats 8000000 in
theorem dlasting (h : DkM F p s C M W) (kv : Value) (k : Nat) (kb kw : Nat → Int) (hk : KL kv k kb kw W) (hok : ∀ i, i < k → okI (kb i)) (hk9 : k ≤ 140737488355328) :
    Calls Tryd.prog 40 #[.pointer (some ⟨p, 0, none⟩), kv] W fun e w' => ∃ q z, e = .returned (.tuple #[q, .int .i64 z]) ∧ Ext W w' ∧ ((okK s M kb kw k ∧ z = 0 ∧ q = .map (some W.heap.size) ∧ MapAt Tryd.prog 3 W.heap.size k (mK M kb kw k) w') ∨ (¬ okK s M kb kw k ∧ z = 1)) := by
  obtain ⟨ko, kcap, rfl⟩ := hk.form
  have hz := zero65
  have hmm := @run_makeMap Tryd.prog
  have hX1 : Ext W (W.alloc (.map #[] 0)) := (Below.refl _ _).alloc (Nat.le_refl _) _
  have hM1 : MapAt Tryd.prog 3 W.heap.size 0 (fun _ => none) (W.alloc (.map #[] 0)) := map_made W
  replace h := hideit h
  replace hk := hideit hk
  replace hok := hideit hok
  go_enter Tryd.func40, Tryd.ntmps40
  go_upto_region 2 with (fail)
  clear hmm
  replace hX1 := hideit hX1
  replace hM1 := hideit hM1
  generalize W.alloc (.map #[] 0) = w1 at *
  go_wp2
  go_loopw [14] (fun iv X => ∃ i : Nat, i ≤ k ∧ iv = .int .i64 (i : Int) ∧ Ext W X ∧ MapAt Tryd.prog 3 W.heap.size i (mK M kb kw i) X ∧ ∀ j, j < i → vdK s M kb kw j) (fun iv _ => k - (intOf iv).toNat)
  case atStart => exact ⟨0, Nat.zero_le _, rfl, hX1.out, hM1.out, fun j hj => by omega⟩
  case round =>
    obtain ⟨i, hi, rfl, hE, hM, hv⟩ := hrel
    replace hE := hideit hE
    replace hM := hideit hM
    replace hv := hideit hv
    by_cases hlt : i < k
    · have i0 : (0 : Int) ≤ (i : Int) := by omega
      have i1 : (i : Int) < (k : Int) := by omega
      obtain ⟨a, rfl, hal⟩ : ∃ a, ko = some a ∧ LieAt a (k * 2) (kpV kb kw) W := by
        rcases hk.out with ⟨h1, h0⟩ | ⟨a, cap', h1, _, h3⟩
        · omega
        · injection h1 with e1 e2 e3
          exact ⟨a, e1, h3⟩
      have hel := (kl_at hal i hlt).carry hE.out
      have hXa : Ext wr (wr.alloc (.cells (row 2 (kpI 0 0)).toArray 97)) := (Below.refl _ _).alloc (Nat.le_refl _) _
      have Ca := RowAt.new wr 2 (kpI 0 0) 97
      have hYa := below_setCells (w := wr) wr.heap.size (Nat.le_refl _) (row 2 (kpI (kb i) (kw i))) 0 _ hXa
      have HK := hideit (Ca.cells (g' := kpI (kb i) (kw i)))
      go_upto_region 4 with (fail)
      refine wp_region_lit ?_
      refine wpList_run rfl (.pointer (some (a.add (i * 2)))) (by simp [go_sem, i1]) ?_
      simp only [zp0, zp1, zp2, zp3]
      refine wpList_run rfl (.agg (row 2 (kpI (kb i) (kw i))).toArray) (exec_loadL 97 (.tmp 16) rfl (a.add (i * 2)) 2 _ rfl hel Tryd.underlying97 rfl info65) ?_
      simp only [zp0, zp1, zp2, zp3]
      refine wpList_to rfl (.pointer (some ⟨wr.heap.size, 0, none⟩)) (wr.alloc (.cells (row 2 (kpI 0 0)).toArray 97)) (by simp [go_sem, hz]) ?_
      simp only [zp0, zp1, zp2, zp3]
      refine wpList_store_mid rfl 97 (.tmp 8) (.tmp 17) rfl _ 0 (row 2 (kpI (kb i) (kw i))).toArray rfl rfl (by rw [row_size]; exact Ca.there) (by rw [row_size]; exact info65) (row_one fun j hj => by rcases (by omega : j = 0 ∨ j = 1) with rfl | rfl <;> rfl) ?_
      rw [show (row 2 (kpI (kb i) (kw i))).toArray.toList = row 2 (kpI (kb i) (kw i)) from rfl]
      have hEY := hideit (Ext.trans hE.out hYa)
      have hMY := hideit (hM.out.same (Below.block hYa _ hM.out.lt))
      generalize (wr.alloc (.cells (row 2 (kpI 0 0)).toArray 97)).setCells wr.heap.size 0 (row 2 (kpI (kb i) (kw i))) = Y at *
      generalize wr.heap.size = kk at *
      clear hXa Ca hYa hel hE hM
      simp only [Act.put]
      have ek0 := HK.out.1 0 (by decide)
      rw [show kpI (kb i) (kw i) 0 = .int .i64 (kb i) from rfl] at ek0
      have hlo := hMY.out.lookOk (t := 62) Tryd.underlying3 Tryd.underlying62 (zero54 Y) (hok.out i hlt)
      have fk0 : ∀ X, Ext Y.drew X → X.cell? ⟨kk, 0, none⟩ = some (.int .i64 (kb i)) := fun X hX => (HK.out.drew.carry hX).1 0 (by decide)
      have fk1 : ∀ X, Ext Y.drew X → X.cell? ⟨kk, 1, none⟩ = some (.int .i64 (kw i)) := fun X hX => (HK.out.drew.carry hX).1 1 (by decide)
      have hDY := hideit (h.out.ext hEY.out)
      have fm1 : ∀ X, Ext Y.drew X → X.cell? ⟨p, 1, none⟩ = some (.map (some M.mb)) := fun X hX => (hDY.out.st.drew.carry hX).1 1 (by decide)
      have khas := dhas (hDY.out.ext (Ext.refl Y).draw) (kb i)
      cases hmm : mK M kb kw i (kb i) with
      | some u =>
        rw [hmm] at hlo
        simp only [Option.getD_some, Option.isSome_some] at hlo
        have hbad : Hid (¬ okK s M kb kw k) := fun H => by have := (H i hlt).1; rw [hmm] at this; cases this
        clear khas hmm
        go_upto_region 5 with (fail)
        refine wp_region_lit ?_
        refine wpList_run rfl (.map (some W.heap.size)) (by simp [go_sem]) ?_
        simp only [zp0, zp1, zp2, zp3]
        refine wpList_run rfl (.pointer (some ⟨kk, 0, none⟩)) (by simp [go_sem]) ?_
        simp only [zp0, zp1, zp2, zp3]
        refine wpList_run rfl (.int .i64 (kb i)) (by simp [go_sem, ek0]) ?_
        simp only [zp0, zp1, zp2, zp3]
        refine wpList_run rfl (.tuple #[u, .bool true]) (exec_look (.tmp 19) (.tmp 21) rfl rfl rfl hlo) ?_
        simp only [zp0, zp1, zp2, zp3]
        refine wpList_run rfl (.tuple #[u, .bool true]) (by simp [go_sem]) ?_
        simp only [zp0, zp1, zp2, zp3]
        refine wpList_run rfl (u) (by simp [go_sem]) ?_
        simp only [zp0, zp1, zp2, zp3]
        refine wpList_run rfl (.bool true) (by simp [go_sem]) ?_
        simp only [zp0, zp1, zp2, zp3]
        refine wpList_run rfl (u) (by simp [go_sem]) ?_
        simp only [zp0, zp1, zp2, zp3]
        refine wpList_run rfl (.bool true) (by simp [go_sem]) ?_
        simp only [zp0, zp1, zp2, zp3]
        clear hlo ek0
        go_upto_region 6 with (fail)
        refine wp_region_lad (fun X => Ext Y.drew X) [(false, 0), (false, 1), (false, 2), (false, 3), (false, 4), (false, 5), (false, 6), (false, 7), (false, 8), (false, 9), (false, 10), (false, 11), (false, 12), (false, 13), (false, 14), (false, 15), (false, 16), (false, 17), (false, 18), (false, 19), (false, 20), (false, 21), (false, 22), (false, 23), (false, 24), (false, 25)] (by kernel_rfl) (by kernel_rfl) (by decide +kernel) (by decide +kernel) (by decide +kernel) (by decide +kernel) (Ext.refl _) ?_
        refine wpX_f _ (.bool true) rfl rfl (fun X _ => by simp [go_sem]) ?_
        simp only [List.getElem_toArray, List.getElem_cons_zero, Act.put, List.setIfInBounds_toArray, List.set_cons_zero, List.set_cons_succ]
        refine wpX_f _ (.bool true) rfl rfl (fun X _ => by simp [go_sem]) ?_
        simp only [zp4, zp5, zp6, zp0, zp1, zp2, zp3]
        refine wpX_fskip _ rfl rfl ?_
        simp only [zp4, zp5, zp6, zp0, zp1, zp2, zp3]
        refine wpX_fskip _ rfl rfl ?_
        simp only [zp4, zp5, zp6, zp0, zp1, zp2, zp3]
        refine wpX_fskip _ rfl rfl ?_
        simp only [zp4, zp5, zp6, zp0, zp1, zp2, zp3]
        refine wpX_fskip _ rfl rfl ?_
        simp only [zp4, zp5, zp6, zp0, zp1, zp2, zp3]
        refine wpX_fskip _ rfl rfl ?_
        simp only [zp4, zp5, zp6, zp0, zp1, zp2, zp3]
        refine wpX_f _ (.bool true) rfl rfl (fun X _ => by simp [go_sem]) ?_
        simp only [zp4, zp5, zp6, zp0, zp1, zp2, zp3]
        refine wpX_f _ (.bool true) rfl rfl (fun X _ => by simp [go_sem]) ?_
        simp only [zp4, zp5, zp6, zp0, zp1, zp2, zp3]
        refine wpX_fskip _ rfl rfl ?_
        simp only [zp4, zp5, zp6, zp0, zp1, zp2, zp3]
        refine wpX_fskip _ rfl rfl ?_
        simp only [zp4, zp5, zp6, zp0, zp1, zp2, zp3]
        refine wpX_fskip _ rfl rfl ?_
        simp only [zp4, zp5, zp6, zp0, zp1, zp2, zp3]
        refine wpX_f _ (.bool true) rfl rfl (fun X _ => by simp [go_sem]) ?_
        simp only [zp4, zp5, zp6, zp0, zp1, zp2, zp3]
        refine wpX_f _ (.bool true) rfl rfl (fun X _ => by simp [go_sem]) ?_
        simp only [zp4, zp5, zp6, zp0, zp1, zp2, zp3]
        refine wpX_fskip _ rfl rfl ?_
        simp only [zp4, zp5, zp6, zp0, zp1, zp2, zp3]
        refine wpX_fskip _ rfl rfl ?_
        simp only [zp4, zp5, zp6, zp0, zp1, zp2, zp3]
        refine wpX_fskip _ rfl rfl ?_
        simp only [zp4, zp5, zp6, zp0, zp1, zp2, zp3]
        refine wpX_fskip _ rfl rfl ?_
        simp only [zp4, zp5, zp6, zp0, zp1, zp2, zp3]
        refine wpX_fskip _ rfl rfl ?_
        simp only [zp4, zp5, zp6, zp0, zp1, zp2, zp3]
        refine wpX_fskip _ rfl rfl ?_
        simp only [zp4, zp5, zp6, zp0, zp1, zp2, zp3]
        refine wpX_fskip _ rfl rfl ?_
        simp only [zp4, zp5, zp6, zp0, zp1, zp2, zp3]
        refine wpX_fskip _ rfl rfl ?_
        simp only [zp4, zp5, zp6, zp0, zp1, zp2, zp3]
        refine wpX_fskip _ rfl rfl ?_
        simp only [zp4, zp5, zp6, zp0, zp1, zp2, zp3]
        refine wpX_fskip _ rfl rfl ?_
        simp only [zp4, zp5, zp6, zp0, zp1, zp2, zp3]
        refine wpX_fskip _ rfl rfl ?_
        simp only [zp4, zp5, zp6, zp0, zp1, zp2, zp3]
        refine wpX_f _ (.bool true) rfl rfl (fun X _ => by simp [go_sem]) ?_
        simp only [zp4, zp5, zp6, zp0, zp1, zp2, zp3]
        refine wpX_nil ?_
        clear fk0 fk1 fm1
        go_wp2
        go_ret2
        exact ⟨_, _, rfl, hEY.out.draw, .inr ⟨hbad.out, rfl⟩⟩
      | none =>
        rw [hmm] at hlo
        simp only [Option.getD_none, Option.isSome_none] at hlo
        cases hin : inN s.N (kb i) with
        | false =>
          rw [hin] at khas
          replace khas := hideit khas
          have hbad : Hid (¬ okK s M kb kw k) := fun H => by have := (H i hlt).2.1; rw [hin] at this; cases this
          go_upto_region 5 with (fail)
          refine wp_region_lit ?_
          refine wpList_run rfl (.map (some W.heap.size)) (by simp [go_sem]) ?_
          simp only [zp0, zp1, zp2, zp3]
          refine wpList_run rfl (.pointer (some ⟨kk, 0, none⟩)) (by simp [go_sem]) ?_
          simp only [zp0, zp1, zp2, zp3]
          refine wpList_run rfl (.int .i64 (kb i)) (by simp [go_sem, ek0]) ?_
          simp only [zp0, zp1, zp2, zp3]
          refine wpList_run rfl (.tuple #[.slice none 0 0, .bool false]) (exec_look (.tmp 19) (.tmp 21) rfl rfl rfl hlo) ?_
          simp only [zp0, zp1, zp2, zp3]
          refine wpList_run rfl (.tuple #[.slice none 0 0, .bool false]) (by simp [go_sem]) ?_
          simp only [zp0, zp1, zp2, zp3]
          refine wpList_run rfl (.slice none 0 0) (by simp [go_sem]) ?_
          simp only [zp0, zp1, zp2, zp3]
          refine wpList_run rfl (.bool false) (by simp [go_sem]) ?_
          simp only [zp0, zp1, zp2, zp3]
          refine wpList_run rfl (.slice none 0 0) (by simp [go_sem]) ?_
          simp only [zp0, zp1, zp2, zp3]
          refine wpList_run rfl (.bool false) (by simp [go_sem]) ?_
          simp only [zp0, zp1, zp2, zp3]
          clear hlo ek0
          go_upto_region 6 with (fail)
          refine wp_region_lad (fun X => Ext Y.drew X) [(false, 0), (false, 1), (false, 2), (false, 3), (false, 4), (true, 5), (false, 6), (false, 7), (false, 8), (false, 9), (false, 10), (false, 11), (false, 12), (false, 13), (false, 14), (false, 15), (false, 16), (false, 17), (false, 18), (false, 19), (false, 20), (false, 21), (false, 22), (false, 23), (false, 24), (false, 25)] (by kernel_rfl) (by kernel_rfl) (by decide +kernel) (by decide +kernel) (by decide +kernel) (by decide +kernel) (Ext.refl _) ?_
          refine wpX_f _ (.bool false) rfl rfl (fun X _ => by simp [go_sem]) ?_
          simp only [List.getElem_toArray, List.getElem_cons_zero, Act.put, List.setIfInBounds_toArray, List.set_cons_zero, List.set_cons_succ]
          refine wpX_f _ (.bool false) rfl rfl (fun X _ => by simp [go_sem]) ?_
          simp only [zp4, zp5, zp6, zp0, zp1, zp2, zp3]
          refine wpX_f _ (.pointer (some ⟨p, 0, none⟩)) rfl rfl (fun X _ => by simp [go_sem]) ?_
          simp only [zp4, zp5, zp6, zp0, zp1, zp2, zp3]
          refine wpX_f _ (.pointer (some ⟨kk, 0, none⟩)) rfl rfl (fun X _ => by simp [go_sem]) ?_
          simp only [zp4, zp5, zp6, zp0, zp1, zp2, zp3]
          refine wpX_f _ (.int .i64 (kb i)) rfl rfl (fun X hX => by simp [go_sem, fk0 X hX]) ?_
          simp only [zp4, zp5, zp6, zp0, zp1, zp2, zp3]
          refine wpX_call _ rfl rfl (by simp [go_sem]) (khas.out.mono ?_)
          rintro e w9 ⟨rfl, hw9⟩
          rw [hw9]
          refine ⟨_, rfl, fun X => Ext Y.drew X, fun X hX => hX, Ext.refl _, ?_⟩
          simp only [zp4, zp5, zp6, zp0, zp1, zp2, zp3]
          clear hw9
          refine wpX_f _ (.bool true) rfl rfl (fun X _ => by simp [go_sem]) ?_
          simp only [zp4, zp5, zp6, zp0, zp1, zp2, zp3]
          refine wpX_f _ (.bool true) rfl rfl (fun X _ => by simp [go_sem]) ?_
          simp only [zp4, zp5, zp6, zp0, zp1, zp2, zp3]
          refine wpX_f _ (.bool true) rfl rfl (fun X _ => by simp [go_sem]) ?_
          simp only [zp4, zp5, zp6, zp0, zp1, zp2, zp3]
          refine wpX_fskip _ rfl rfl ?_
          simp only [zp4, zp5, zp6, zp0, zp1, zp2, zp3]
          refine wpX_fskip _ rfl rfl ?_
          simp only [zp4, zp5, zp6, zp0, zp1, zp2, zp3]
          refine wpX_fskip _ rfl rfl ?_
          simp only [zp4, zp5, zp6, zp0, zp1, zp2, zp3]
          refine wpX_f _ (.bool true) rfl rfl (fun X _ => by simp [go_sem]) ?_
          simp only [zp4, zp5, zp6, zp0, zp1, zp2, zp3]
          refine wpX_f _ (.bool true) rfl rfl (fun X _ => by simp [go_sem]) ?_
          simp only [zp4, zp5, zp6, zp0, zp1, zp2, zp3]
          refine wpX_fskip _ rfl rfl ?_
          simp only [zp4, zp5, zp6, zp0, zp1, zp2, zp3]
          refine wpX_fskip _ rfl rfl ?_
          simp only [zp4, zp5, zp6, zp0, zp1, zp2, zp3]
          refine wpX_fskip _ rfl rfl ?_
          simp only [zp4, zp5, zp6, zp0, zp1, zp2, zp3]
          refine wpX_fskip _ rfl rfl ?_
          simp only [zp4, zp5, zp6, zp0, zp1, zp2, zp3]
          refine wpX_fskip _ rfl rfl ?_
          simp only [zp4, zp5, zp6, zp0, zp1, zp2, zp3]
          refine wpX_fskip _ rfl rfl ?_
          simp only [zp4, zp5, zp6, zp0, zp1, zp2, zp3]
          refine wpX_fskip _ rfl rfl ?_
          simp only [zp4, zp5, zp6, zp0, zp1, zp2, zp3]
          refine wpX_fskip _ rfl rfl ?_
          simp only [zp4, zp5, zp6, zp0, zp1, zp2, zp3]
          refine wpX_fskip _ rfl rfl ?_
          simp only [zp4, zp5, zp6, zp0, zp1, zp2, zp3]
          refine wpX_fskip _ rfl rfl ?_
          simp only [zp4, zp5, zp6, zp0, zp1, zp2, zp3]
          refine wpX_fskip _ rfl rfl ?_
          simp only [zp4, zp5, zp6, zp0, zp1, zp2, zp3]
          refine wpX_f _ (.bool true) rfl rfl (fun X _ => by simp [go_sem]) ?_
          simp only [zp4, zp5, zp6, zp0, zp1, zp2, zp3]
          refine wpX_nil ?_
          clear khas
          clear fk0 fk1 fm1
          go_wp2
          go_ret2
          exact ⟨_, _, rfl, hEY.out.draw, .inr ⟨hbad.out, rfl⟩⟩
        | true =>
          rw [hin] at khas
          replace khas := hideit khas
          have hin0 := hin
          obtain ⟨n, hkb, hn⟩ := inN_spec hin
          clear hin
          by_cases hneg : kw i < 0
          · have hbad : Hid (¬ okK s M kb kw k) := fun H => by have := (H i hlt).2.2.1; omega
            go_upto_region 5 with (fail)
            refine wp_region_lit ?_
            refine wpList_run rfl (.map (some W.heap.size)) (by simp [go_sem]) ?_
            simp only [zp0, zp1, zp2, zp3]
            refine wpList_run rfl (.pointer (some ⟨kk, 0, none⟩)) (by simp [go_sem]) ?_
            simp only [zp0, zp1, zp2, zp3]
            refine wpList_run rfl (.int .i64 (kb i)) (by simp [go_sem, ek0]) ?_
            simp only [zp0, zp1, zp2, zp3]
            refine wpList_run rfl (.tuple #[.slice none 0 0, .bool false]) (exec_look (.tmp 19) (.tmp 21) rfl rfl rfl hlo) ?_
            simp only [zp0, zp1, zp2, zp3]
            refine wpList_run rfl (.tuple #[.slice none 0 0, .bool false]) (by simp [go_sem]) ?_
            simp only [zp0, zp1, zp2, zp3]
            refine wpList_run rfl (.slice none 0 0) (by simp [go_sem]) ?_
            simp only [zp0, zp1, zp2, zp3]
            refine wpList_run rfl (.bool false) (by simp [go_sem]) ?_
            simp only [zp0, zp1, zp2, zp3]
            refine wpList_run rfl (.slice none 0 0) (by simp [go_sem]) ?_
            simp only [zp0, zp1, zp2, zp3]
            refine wpList_run rfl (.bool false) (by simp [go_sem]) ?_
            simp only [zp0, zp1, zp2, zp3]
            clear hlo ek0
            go_upto_region 6 with (fail)
            refine wp_region_lad (fun X => Ext Y.drew X) [(false, 0), (false, 1), (false, 2), (false, 3), (false, 4), (true, 5), (false, 6), (false, 7), (false, 8), (false, 9), (false, 10), (false, 11), (false, 12), (false, 13), (false, 14), (false, 15), (false, 16), (false, 17), (false, 18), (false, 19), (false, 20), (false, 21), (false, 22), (false, 23), (false, 24), (false, 25)] (by kernel_rfl) (by kernel_rfl) (by decide +kernel) (by decide +kernel) (by decide +kernel) (by decide +kernel) (Ext.refl _) ?_
            refine wpX_f _ (.bool false) rfl rfl (fun X _ => by simp [go_sem]) ?_
            simp only [List.getElem_toArray, List.getElem_cons_zero, Act.put, List.setIfInBounds_toArray, List.set_cons_zero, List.set_cons_succ]
            refine wpX_f _ (.bool false) rfl rfl (fun X _ => by simp [go_sem]) ?_
            simp only [zp4, zp5, zp6, zp0, zp1, zp2, zp3]
            refine wpX_f _ (.pointer (some ⟨p, 0, none⟩)) rfl rfl (fun X _ => by simp [go_sem]) ?_
            simp only [zp4, zp5, zp6, zp0, zp1, zp2, zp3]
            refine wpX_f _ (.pointer (some ⟨kk, 0, none⟩)) rfl rfl (fun X _ => by simp [go_sem]) ?_
            simp only [zp4, zp5, zp6, zp0, zp1, zp2, zp3]
            refine wpX_f _ (.int .i64 (kb i)) rfl rfl (fun X hX => by simp [go_sem, fk0 X hX]) ?_
            simp only [zp4, zp5, zp6, zp0, zp1, zp2, zp3]
            refine wpX_call _ rfl rfl (by simp [go_sem]) (khas.out.mono ?_)
            rintro e w9 ⟨rfl, hw9⟩
            rw [hw9]
            refine ⟨_, rfl, fun X => Ext Y.drew X, fun X hX => hX, Ext.refl _, ?_⟩
            simp only [zp4, zp5, zp6, zp0, zp1, zp2, zp3]
            clear hw9
            refine wpX_f _ (.bool false) rfl rfl (fun X _ => by simp [go_sem]) ?_
            simp only [zp4, zp5, zp6, zp0, zp1, zp2, zp3]
            refine wpX_f _ (.bool false) rfl rfl (fun X _ => by simp [go_sem]) ?_
            simp only [zp4, zp5, zp6, zp0, zp1, zp2, zp3]
            refine wpX_f _ (.bool false) rfl rfl (fun X _ => by simp [go_sem]) ?_
            simp only [zp4, zp5, zp6, zp0, zp1, zp2, zp3]
            refine wpX_f _ (.pointer (some ⟨kk, 1, none⟩)) rfl rfl (fun X _ => by simp [go_sem]) ?_
            simp only [zp4, zp5, zp6, zp0, zp1, zp2, zp3]
            refine wpX_f _ (.int .i64 (kw i)) rfl rfl (fun X hX => by simp [go_sem, fk1 X hX]) ?_
            simp only [zp4, zp5, zp6, zp0, zp1, zp2, zp3]
            refine wpX_f _ (.bool true) rfl rfl (fun X _ => by simp [go_sem, hneg]) ?_
            simp only [zp4, zp5, zp6, zp0, zp1, zp2, zp3]
            refine wpX_f _ (.bool true) rfl rfl (fun X _ => by simp [go_sem]) ?_
            simp only [zp4, zp5, zp6, zp0, zp1, zp2, zp3]
            refine wpX_f _ (.bool true) rfl rfl (fun X _ => by simp [go_sem]) ?_
            simp only [zp4, zp5, zp6, zp0, zp1, zp2, zp3]
            refine wpX_fskip _ rfl rfl ?_
            simp only [zp4, zp5, zp6, zp0, zp1, zp2, zp3]
            refine wpX_fskip _ rfl rfl ?_
            simp only [zp4, zp5, zp6, zp0, zp1, zp2, zp3]
            refine wpX_fskip _ rfl rfl ?_
            simp only [zp4, zp5, zp6, zp0, zp1, zp2, zp3]
            refine wpX_fskip _ rfl rfl ?_
            simp only [zp4, zp5, zp6, zp0, zp1, zp2, zp3]
            refine wpX_fskip _ rfl rfl ?_
            simp only [zp4, zp5, zp6, zp0, zp1, zp2, zp3]
            refine wpX_fskip _ rfl rfl ?_
            simp only [zp4, zp5, zp6, zp0, zp1, zp2, zp3]
            refine wpX_fskip _ rfl rfl ?_
            simp only [zp4, zp5, zp6, zp0, zp1, zp2, zp3]
            refine wpX_fskip _ rfl rfl ?_
            simp only [zp4, zp5, zp6, zp0, zp1, zp2, zp3]
            refine wpX_fskip _ rfl rfl ?_
            simp only [zp4, zp5, zp6, zp0, zp1, zp2, zp3]
            refine wpX_fskip _ rfl rfl ?_
            simp only [zp4, zp5, zp6, zp0, zp1, zp2, zp3]
            refine wpX_fskip _ rfl rfl ?_
            simp only [zp4, zp5, zp6, zp0, zp1, zp2, zp3]
            refine wpX_f _ (.bool true) rfl rfl (fun X _ => by simp [go_sem]) ?_
            simp only [zp4, zp5, zp6, zp0, zp1, zp2, zp3]
            refine wpX_nil ?_
            clear khas
            clear fk0 fk1 fm1
            go_wp2
            go_ret2
            exact ⟨_, _, rfl, hEY.out.draw, .inr ⟨hbad.out, rfl⟩⟩
          · obtain ⟨lo, lc, hls0, hlo0, hkc9, hlc9⟩ := h.out.lsForm hn
            have hls := hideit hls0
            have flk : ∀ X, Ext Y.drew X → (Instr.lookup 62 (.map (some M.mb)) (.int .i64 (kb i)) false).run Tryd.prog X = .ok (.slice lo (s.kc n) lc) X := fun X hX => by
              have e := ((hDY.out.ext (Ext.refl Y).draw).ext hX).mp.look (t := 62) Tryd.underlying3 Tryd.underlying62 (zero54 X) (hok.out i hlt)
              rw [e, ← hls0, hkb]
              rfl
            clear hls0
            by_cases hmany : (s.kc n : Int) < kw i
            · have hbad : Hid (¬ okK s M kb kw k) := fun H => by have := (H i hlt).2.2.2; rw [hkb, Int.toNat_natCast] at this; omega
              go_upto_region 5 with (fail)
              refine wp_region_lit ?_
              refine wpList_run rfl (.map (some W.heap.size)) (by simp [go_sem]) ?_
              simp only [zp0, zp1, zp2, zp3]
              refine wpList_run rfl (.pointer (some ⟨kk, 0, none⟩)) (by simp [go_sem]) ?_
              simp only [zp0, zp1, zp2, zp3]
              refine wpList_run rfl (.int .i64 (kb i)) (by simp [go_sem, ek0]) ?_
              simp only [zp0, zp1, zp2, zp3]
              refine wpList_run rfl (.tuple #[.slice none 0 0, .bool false]) (exec_look (.tmp 19) (.tmp 21) rfl rfl rfl hlo) ?_
              simp only [zp0, zp1, zp2, zp3]
              refine wpList_run rfl (.tuple #[.slice none 0 0, .bool false]) (by simp [go_sem]) ?_
              simp only [zp0, zp1, zp2, zp3]
              refine wpList_run rfl (.slice none 0 0) (by simp [go_sem]) ?_
              simp only [zp0, zp1, zp2, zp3]
              refine wpList_run rfl (.bool false) (by simp [go_sem]) ?_
              simp only [zp0, zp1, zp2, zp3]
              refine wpList_run rfl (.slice none 0 0) (by simp [go_sem]) ?_
              simp only [zp0, zp1, zp2, zp3]
              refine wpList_run rfl (.bool false) (by simp [go_sem]) ?_
              simp only [zp0, zp1, zp2, zp3]
              clear hlo ek0
              go_upto_region 6 with (fail)
              refine wp_region_lad (fun X => Ext Y.drew X) [(false, 0), (false, 1), (false, 2), (false, 3), (false, 4), (true, 5), (false, 6), (false, 7), (false, 8), (false, 9), (false, 10), (false, 11), (false, 12), (false, 13), (false, 14), (false, 15), (false, 16), (false, 17), (false, 18), (false, 19), (false, 20), (false, 21), (false, 22), (false, 23), (false, 24), (false, 25)] (by kernel_rfl) (by kernel_rfl) (by decide +kernel) (by decide +kernel) (by decide +kernel) (by decide +kernel) (Ext.refl _) ?_
              refine wpX_f _ (.bool false) rfl rfl (fun X _ => by simp [go_sem]) ?_
              simp only [List.getElem_toArray, List.getElem_cons_zero, Act.put, List.setIfInBounds_toArray, List.set_cons_zero, List.set_cons_succ]
              refine wpX_f _ (.bool false) rfl rfl (fun X _ => by simp [go_sem]) ?_
              simp only [zp4, zp5, zp6, zp0, zp1, zp2, zp3]
              refine wpX_f _ (.pointer (some ⟨p, 0, none⟩)) rfl rfl (fun X _ => by simp [go_sem]) ?_
              simp only [zp4, zp5, zp6, zp0, zp1, zp2, zp3]
              refine wpX_f _ (.pointer (some ⟨kk, 0, none⟩)) rfl rfl (fun X _ => by simp [go_sem]) ?_
              simp only [zp4, zp5, zp6, zp0, zp1, zp2, zp3]
              refine wpX_f _ (.int .i64 (kb i)) rfl rfl (fun X hX => by simp [go_sem, fk0 X hX]) ?_
              simp only [zp4, zp5, zp6, zp0, zp1, zp2, zp3]
              refine wpX_call _ rfl rfl (by simp [go_sem]) (khas.out.mono ?_)
              rintro e w9 ⟨rfl, hw9⟩
              rw [hw9]
              refine ⟨_, rfl, fun X => Ext Y.drew X, fun X hX => hX, Ext.refl _, ?_⟩
              simp only [zp4, zp5, zp6, zp0, zp1, zp2, zp3]
              clear hw9
              refine wpX_f _ (.bool false) rfl rfl (fun X _ => by simp [go_sem]) ?_
              simp only [zp4, zp5, zp6, zp0, zp1, zp2, zp3]
              refine wpX_f _ (.bool false) rfl rfl (fun X _ => by simp [go_sem]) ?_
              simp only [zp4, zp5, zp6, zp0, zp1, zp2, zp3]
              refine wpX_f _ (.bool false) rfl rfl (fun X _ => by simp [go_sem]) ?_
              simp only [zp4, zp5, zp6, zp0, zp1, zp2, zp3]
              refine wpX_f _ (.pointer (some ⟨kk, 1, none⟩)) rfl rfl (fun X _ => by simp [go_sem]) ?_
              simp only [zp4, zp5, zp6, zp0, zp1, zp2, zp3]
              refine wpX_f _ (.int .i64 (kw i)) rfl rfl (fun X hX => by simp [go_sem, fk1 X hX]) ?_
              simp only [zp4, zp5, zp6, zp0, zp1, zp2, zp3]
              refine wpX_f _ (.bool false) rfl rfl (fun X _ => by simp [go_sem, hneg]) ?_
              simp only [zp4, zp5, zp6, zp0, zp1, zp2, zp3]
              refine wpX_f _ (.bool false) rfl rfl (fun X _ => by simp [go_sem]) ?_
              simp only [zp4, zp5, zp6, zp0, zp1, zp2, zp3]
              refine wpX_f _ (.bool false) rfl rfl (fun X _ => by simp [go_sem]) ?_
              simp only [zp4, zp5, zp6, zp0, zp1, zp2, zp3]
              refine wpX_f _ (.pointer (some ⟨kk, 1, none⟩)) rfl rfl (fun X _ => by simp [go_sem]) ?_
              simp only [zp4, zp5, zp6, zp0, zp1, zp2, zp3]
              refine wpX_f _ (.int .i64 (kw i)) rfl rfl (fun X hX => by simp [go_sem, fk1 X hX]) ?_
              simp only [zp4, zp5, zp6, zp0, zp1, zp2, zp3]
              refine wpX_f _ (.pointer (some ⟨p, 0, none⟩)) rfl rfl (fun X _ => by simp [go_sem]) ?_
              simp only [zp4, zp5, zp6, zp0, zp1, zp2, zp3]
              refine wpX_f _ (.pointer (some ⟨p, 0, none⟩)) rfl rfl (fun X _ => by simp [go_sem]) ?_
              simp only [zp4, zp5, zp6, zp0, zp1, zp2, zp3]
              refine wpX_f _ (.pointer (some ⟨p, 1, none⟩)) rfl rfl (fun X _ => by simp [go_sem]) ?_
              simp only [zp4, zp5, zp6, zp0, zp1, zp2, zp3]
              refine wpX_f _ (.map (some M.mb)) rfl rfl (fun X hX => by simp [go_sem, fm1 X hX]) ?_
              simp only [zp4, zp5, zp6, zp0, zp1, zp2, zp3]
              refine wpX_f _ (.pointer (some ⟨kk, 0, none⟩)) rfl rfl (fun X _ => by simp [go_sem]) ?_
              simp only [zp4, zp5, zp6, zp0, zp1, zp2, zp3]
              refine wpX_f _ (.int .i64 (kb i)) rfl rfl (fun X hX => by simp [go_sem, fk0 X hX]) ?_
              simp only [zp4, zp5, zp6, zp0, zp1, zp2, zp3]
              refine wpX_f _ (.slice lo (s.kc n) lc) rfl rfl (fun X hX => by simp [go_sem, flk X hX]) ?_
              simp only [zp4, zp5, zp6, zp0, zp1, zp2, zp3]
              refine wpX_f _ (.int .i64 (s.kc n : Int)) rfl rfl (fun X _ => by simp [go_sem]) ?_
              simp only [zp4, zp5, zp6, zp0, zp1, zp2, zp3]
              refine wpX_f _ (.bool true) rfl rfl (fun X _ => by simp [go_sem, hmany]) ?_
              simp only [zp4, zp5, zp6, zp0, zp1, zp2, zp3]
              refine wpX_f _ (.bool true) rfl rfl (fun X _ => by simp [go_sem]) ?_
              simp only [zp4, zp5, zp6, zp0, zp1, zp2, zp3]
              refine wpX_nil ?_
              clear khas flk
              clear fk0 fk1 fm1
              go_wp2
              go_ret2
              exact ⟨_, _, rfl, hEY.out.draw, .inr ⟨hbad.out, rfl⟩⟩
            · have hvi : Hid (vdK s M kb kw i) := ⟨hmm, hin0, by omega, by rw [hkb, Int.toNat_natCast]; omega⟩
              obtain ⟨q, hq⟩ : ∃ q : Nat, kw i = (q : Int) := ⟨(kw i).toNat, by omega⟩
              have hqlc : q ≤ lc := by omega
              have hcv : Hid (cutV (lsV M (kb i).toNat) (kw i).toNat = .slice lo q lc) := by rw [hkb, Int.toNat_natCast, hls.out, hq, Int.toNat_natCast]; rfl
              go_upto_region 5 with (fail)
              refine wp_region_lit ?_
              refine wpList_run rfl (.map (some W.heap.size)) (by simp [go_sem]) ?_
              simp only [zp0, zp1, zp2, zp3]
              refine wpList_run rfl (.pointer (some ⟨kk, 0, none⟩)) (by simp [go_sem]) ?_
              simp only [zp0, zp1, zp2, zp3]
              refine wpList_run rfl (.int .i64 (kb i)) (by simp [go_sem, ek0]) ?_
              simp only [zp0, zp1, zp2, zp3]
              refine wpList_run rfl (.tuple #[.slice none 0 0, .bool false]) (exec_look (.tmp 19) (.tmp 21) rfl rfl rfl hlo) ?_
              simp only [zp0, zp1, zp2, zp3]
              refine wpList_run rfl (.tuple #[.slice none 0 0, .bool false]) (by simp [go_sem]) ?_
              simp only [zp0, zp1, zp2, zp3]
              refine wpList_run rfl (.slice none 0 0) (by simp [go_sem]) ?_
              simp only [zp0, zp1, zp2, zp3]
              refine wpList_run rfl (.bool false) (by simp [go_sem]) ?_
              simp only [zp0, zp1, zp2, zp3]
              refine wpList_run rfl (.slice none 0 0) (by simp [go_sem]) ?_
              simp only [zp0, zp1, zp2, zp3]
              refine wpList_run rfl (.bool false) (by simp [go_sem]) ?_
              simp only [zp0, zp1, zp2, zp3]
              clear hlo ek0
              go_upto_region 6 with (fail)
              refine wp_region_lad (fun X => Ext Y.drew X) [(false, 0), (false, 1), (false, 2), (false, 3), (false, 4), (true, 5), (false, 6), (false, 7), (false, 8), (false, 9), (false, 10), (false, 11), (false, 12), (false, 13), (false, 14), (false, 15), (false, 16), (false, 17), (false, 18), (false, 19), (false, 20), (false, 21), (false, 22), (false, 23), (false, 24), (false, 25)] (by kernel_rfl) (by kernel_rfl) (by decide +kernel) (by decide +kernel) (by decide +kernel) (by decide +kernel) (Ext.refl _) ?_
              refine wpX_f _ (.bool false) rfl rfl (fun X _ => by simp [go_sem]) ?_
              simp only [List.getElem_toArray, List.getElem_cons_zero, Act.put, List.setIfInBounds_toArray, List.set_cons_zero, List.set_cons_succ]
              refine wpX_f _ (.bool false) rfl rfl (fun X _ => by simp [go_sem]) ?_
              simp only [zp4, zp5, zp6, zp0, zp1, zp2, zp3]
              refine wpX_f _ (.pointer (some ⟨p, 0, none⟩)) rfl rfl (fun X _ => by simp [go_sem]) ?_
              simp only [zp4, zp5, zp6, zp0, zp1, zp2, zp3]
              refine wpX_f _ (.pointer (some ⟨kk, 0, none⟩)) rfl rfl (fun X _ => by simp [go_sem]) ?_
              simp only [zp4, zp5, zp6, zp0, zp1, zp2, zp3]
              refine wpX_f _ (.int .i64 (kb i)) rfl rfl (fun X hX => by simp [go_sem, fk0 X hX]) ?_
              simp only [zp4, zp5, zp6, zp0, zp1, zp2, zp3]
              refine wpX_call _ rfl rfl (by simp [go_sem]) (khas.out.mono ?_)
              rintro e w9 ⟨rfl, hw9⟩
              rw [hw9]
              refine ⟨_, rfl, fun X => Ext Y.drew X, fun X hX => hX, Ext.refl _, ?_⟩
              simp only [zp4, zp5, zp6, zp0, zp1, zp2, zp3]
              clear hw9
              refine wpX_f _ (.bool false) rfl rfl (fun X _ => by simp [go_sem]) ?_
              simp only [zp4, zp5, zp6, zp0, zp1, zp2, zp3]
              refine wpX_f _ (.bool false) rfl rfl (fun X _ => by simp [go_sem]) ?_
              simp only [zp4, zp5, zp6, zp0, zp1, zp2, zp3]
              refine wpX_f _ (.bool false) rfl rfl (fun X _ => by simp [go_sem]) ?_
              simp only [zp4, zp5, zp6, zp0, zp1, zp2, zp3]
              refine wpX_f _ (.pointer (some ⟨kk, 1, none⟩)) rfl rfl (fun X _ => by simp [go_sem]) ?_
              simp only [zp4, zp5, zp6, zp0, zp1, zp2, zp3]
              refine wpX_f _ (.int .i64 (kw i)) rfl rfl (fun X hX => by simp [go_sem, fk1 X hX]) ?_
              simp only [zp4, zp5, zp6, zp0, zp1, zp2, zp3]
              refine wpX_f _ (.bool false) rfl rfl (fun X _ => by simp [go_sem, hneg]) ?_
              simp only [zp4, zp5, zp6, zp0, zp1, zp2, zp3]
              refine wpX_f _ (.bool false) rfl rfl (fun X _ => by simp [go_sem]) ?_
              simp only [zp4, zp5, zp6, zp0, zp1, zp2, zp3]
              refine wpX_f _ (.bool false) rfl rfl (fun X _ => by simp [go_sem]) ?_
              simp only [zp4, zp5, zp6, zp0, zp1, zp2, zp3]
              refine wpX_f _ (.pointer (some ⟨kk, 1, none⟩)) rfl rfl (fun X _ => by simp [go_sem]) ?_
              simp only [zp4, zp5, zp6, zp0, zp1, zp2, zp3]
              refine wpX_f _ (.int .i64 (kw i)) rfl rfl (fun X hX => by simp [go_sem, fk1 X hX]) ?_
              simp only [zp4, zp5, zp6, zp0, zp1, zp2, zp3]
              refine wpX_f _ (.pointer (some ⟨p, 0, none⟩)) rfl rfl (fun X _ => by simp [go_sem]) ?_
              simp only [zp4, zp5, zp6, zp0, zp1, zp2, zp3]
              refine wpX_f _ (.pointer (some ⟨p, 0, none⟩)) rfl rfl (fun X _ => by simp [go_sem]) ?_
              simp only [zp4, zp5, zp6, zp0, zp1, zp2, zp3]
              refine wpX_f _ (.pointer (some ⟨p, 1, none⟩)) rfl rfl (fun X _ => by simp [go_sem]) ?_
              simp only [zp4, zp5, zp6, zp0, zp1, zp2, zp3]
              refine wpX_f _ (.map (some M.mb)) rfl rfl (fun X hX => by simp [go_sem, fm1 X hX]) ?_
              simp only [zp4, zp5, zp6, zp0, zp1, zp2, zp3]
              refine wpX_f _ (.pointer (some ⟨kk, 0, none⟩)) rfl rfl (fun X _ => by simp [go_sem]) ?_
              simp only [zp4, zp5, zp6, zp0, zp1, zp2, zp3]
              refine wpX_f _ (.int .i64 (kb i)) rfl rfl (fun X hX => by simp [go_sem, fk0 X hX]) ?_
              simp only [zp4, zp5, zp6, zp0, zp1, zp2, zp3]
              refine wpX_f _ (.slice lo (s.kc n) lc) rfl rfl (fun X hX => by simp [go_sem, flk X hX]) ?_
              simp only [zp4, zp5, zp6, zp0, zp1, zp2, zp3]
              refine wpX_f _ (.int .i64 (s.kc n : Int)) rfl rfl (fun X _ => by simp [go_sem]) ?_
              simp only [zp4, zp5, zp6, zp0, zp1, zp2, zp3]
              refine wpX_f _ (.bool false) rfl rfl (fun X _ => by simp [go_sem, hmany]) ?_
              simp only [zp4, zp5, zp6, zp0, zp1, zp2, zp3]
              refine wpX_f _ (.bool false) rfl rfl (fun X _ => by simp [go_sem]) ?_
              simp only [zp4, zp5, zp6, zp0, zp1, zp2, zp3]
              refine wpX_nil ?_
              clear khas
              obtain ⟨w4, hr4, hm4, hg4, hs4⟩ := (show MapAt Tryd.prog 3 W.heap.size i (mK M kb kw i) Y.drew.drew from hMY.out.same rfl).put (t := 62) Tryd.underlying3 Tryd.underlying62 (by unfold maxLen; omega) (hok.out i hlt) (.slice lo q lc)
              have hE4 := hideit (Ext.but hEY.out.draw.draw hg4 (Nat.le_refl _))
              replace hm4 : Hid (MapAt Tryd.prog 3 W.heap.size (i + 1) (mK M kb kw (i + 1)) w4) := by
                show MapAt Tryd.prog 3 W.heap.size (i + 1) (mset (mK M kb kw i) (kb i) (some (cutV (lsV M (kb i).toNat) (kw i).toNat))) w4
                rw [hcv.out]
                exact hm4
              replace hq := hideit hq
              go_upto_region 8 with (fail)
              refine wp_region_ladz (fun X => Ext Y.drew X) [13] [(false, 0), (false, 1), (false, 2), (false, 3), (false, 4), (false, 5), (false, 6), (false, 7), (false, 8), (false, 9), (false, 10), (false, 11), (false, 12), (true, 13)] (by kernel_rfl) (by kernel_rfl) (by decide +kernel) (by decide +kernel) (by decide +kernel) (by decide +kernel) (Ext.refl _).draw ?_
              refine wpZ_f _ (.map (some W.heap.size)) rfl rfl (fun X _ => by simp [go_sem]) ?_
              simp only [List.getElem_toArray, List.getElem_cons_zero, Act.put, List.setIfInBounds_toArray, List.set_cons_zero, List.set_cons_succ]
              refine wpZ_f _ (.pointer (some ⟨kk, 0, none⟩)) rfl rfl (fun X _ => by simp [go_sem]) ?_
              simp only [zp4, zp5, zp6, zp0, zp1, zp2, zp3]
              refine wpZ_f _ (.int .i64 (kb i)) rfl rfl (fun X hX => by simp [go_sem, fk0 X hX]) ?_
              simp only [zp4, zp5, zp6, zp0, zp1, zp2, zp3]
              refine wpZ_f _ (.pointer (some ⟨p, 0, none⟩)) rfl rfl (fun X _ => by simp [go_sem]) ?_
              simp only [zp4, zp5, zp6, zp0, zp1, zp2, zp3]
              refine wpZ_f _ (.pointer (some ⟨p, 0, none⟩)) rfl rfl (fun X _ => by simp [go_sem]) ?_
              simp only [zp4, zp5, zp6, zp0, zp1, zp2, zp3]
              refine wpZ_f _ (.pointer (some ⟨p, 1, none⟩)) rfl rfl (fun X _ => by simp [go_sem]) ?_
              simp only [zp4, zp5, zp6, zp0, zp1, zp2, zp3]
              refine wpZ_f _ (.map (some M.mb)) rfl rfl (fun X hX => by simp [go_sem, fm1 X hX]) ?_
              simp only [zp4, zp5, zp6, zp0, zp1, zp2, zp3]
              refine wpZ_f _ (.pointer (some ⟨kk, 0, none⟩)) rfl rfl (fun X _ => by simp [go_sem]) ?_
              simp only [zp4, zp5, zp6, zp0, zp1, zp2, zp3]
              refine wpZ_f _ (.int .i64 (kb i)) rfl rfl (fun X hX => by simp [go_sem, fk0 X hX]) ?_
              simp only [zp4, zp5, zp6, zp0, zp1, zp2, zp3]
              refine wpZ_f _ (.slice lo (s.kc n) lc) rfl rfl (fun X hX => exec_look (.tmp 57) (.tmp 59) rfl rfl rfl (flk X hX)) ?_
              simp only [zp4, zp5, zp6, zp0, zp1, zp2, zp3]
              refine wpZ_f _ (.pointer (some ⟨kk, 1, none⟩)) rfl rfl (fun X _ => by simp [go_sem]) ?_
              simp only [zp4, zp5, zp6, zp0, zp1, zp2, zp3]
              refine wpZ_f _ (.int .i64 (q : Int)) rfl rfl (fun X hX => by simp [go_sem, fk1 X hX, hq.out]) ?_
              simp only [zp4, zp5, zp6, zp0, zp1, zp2, zp3]
              refine wpZ_f _ (.slice lo q lc) rfl rfl (fun X hX => exec_cut (.tmp 60) (.tmp 62) rfl rfl rfl hlo0 hqlc) ?_
              simp only [zp4, zp5, zp6, zp0, zp1, zp2, zp3]
              refine wpZ_st _ w4 rfl rfl (exec_mput (.tmp 51) (.tmp 53) (.tmp 63) rfl rfl rfl rfl hr4) (fun _ => True) (.inl (by simp)) trivial ?_
              simp only [List.getElem_toArray, List.getElem_cons_zero, List.getElem_cons_succ, Act.put]
              refine wpZ_nil ?_
              clear fk0 fk1 fm1 flk hr4 hg4 hs4 hcv hls hmm hin0 hlo0 hlc9 hkc9
              go_wp2
              exact ⟨⟨i + 1, by omega, by go_num, hE4.out, hm4.out, fun j hj => by
                by_cases e : j = i
                · subst e; exact hvi.out
                · exact hv.out j (by omega)⟩, by simp [intOf]; omega⟩
    · obtain rfl : i = k := by omega
      have i1 : ¬ (i : Int) < (i : Int) := by omega
      go_wp2
      go_ret2
      exact ⟨_, _, rfl, hE.out, .inl ⟨hv.out, rfl, rfl, hM.out⟩⟩
end
end Go.Proofs.YtiakkclabgelfaaDoor
